package count

import (
	"math"
	"math/rand"
	"slices"
	"testing"

	"steadyhand/api"
)

// far are numbers that no bound holds, some of them small in their lower 32 bits.
var far = []int{math.MinInt, math.MinInt + 1, -1 << 32, 1 - 1<<32, math.MinInt32, -1000, -2, 1002, math.MaxInt32, 1 << 32, 1<<32 + 1, 1<<32 + 5, math.MaxInt - 1, math.MaxInt}

// wrong are pairs of which Check tells ErrArg.
func wrong() []struct {
	p api.Persist
	c api.Count
} {
	type pair = struct {
		p api.Persist
		c api.Count
	}
	l := []pair{
		// Beside the bounds, one at a time.
		{api.Persist{Up: 0, Down: 1, Most: 4}, api.Count{}}, {api.Persist{Up: -1, Down: 1, Most: 4}, api.Count{}},
		{api.Persist{Up: 1001, Down: 1, Most: 4}, api.Count{}},
		{api.Persist{Up: 2, Down: -1, Most: 4}, api.Count{}}, {api.Persist{Up: 2, Down: 1001, Most: 4}, api.Count{}},
		{api.Persist{Up: 2, Down: 1, Most: 0}, api.Count{}}, {api.Persist{Up: 2, Down: 1, Most: -1}, api.Count{}},
		{api.Persist{Up: 2, Down: 1, Most: 1001}, api.Count{}}, {api.Persist{Up: 2, Down: 1, Most: 1001}, api.Count{N: 1001}},
		{api.Persist{Up: 2, Down: 1, Most: 4}, api.Count{N: -1}}, {api.Persist{Up: 2, Down: 1, Most: 4}, api.Count{N: 5}},
		{api.Persist{Up: 2, Down: 1, Most: 1}, api.Count{N: 2}}, {api.Persist{Up: 2, Down: 1, Most: 1000}, api.Count{N: 1001}},
		{api.Persist{Up: 2, Down: 1, Most: 999}, api.Count{N: 1000}},
		// All of them, and none given.
		{api.Persist{}, api.Count{}}, {api.Persist{Up: -1, Down: -1, Most: -1}, api.Count{N: -1}},
	}
	for _, n := range far {
		l = append(l,
			pair{api.Persist{Up: n, Down: 1, Most: 4}, api.Count{N: 2}}, pair{api.Persist{Up: 2, Down: n, Most: 4}, api.Count{N: 2}},
			pair{api.Persist{Up: 2, Down: 1, Most: n}, api.Count{}}, pair{api.Persist{Up: 2, Down: 1, Most: 4}, api.Count{N: n}},
			pair{api.Persist{Up: 2, Down: 1, Most: n}, api.Count{N: n}}, pair{api.Persist{Up: n, Down: n, Most: n}, api.Count{N: n}})
	}
	// What is Set is no better.
	for _, x := range slices.Clone(l) {
		x.c.Set = true
		l = append(l, x)
	}
	return l
}

// P18.
func TestCheck(t *testing.T) {
	for _, x := range []struct {
		p api.Persist
		n int
	}{
		{api.Persist{Up: 2, Down: 1, Most: 4}, 0}, {api.Persist{Up: 2, Down: 1, Most: 4}, 3}, {api.Persist{Up: 2, Down: 1, Most: 4}, 4},
		// At the bounds.
		{api.Persist{Up: 1, Down: 0, Most: 1}, 0}, {api.Persist{Up: 1, Down: 0, Most: 1}, 1},
		{api.Persist{Up: 1000, Down: 1000, Most: 1000}, 0}, {api.Persist{Up: 1000, Down: 1000, Most: 1000}, 1000},
		{api.Persist{Up: 1, Down: 0, Most: 1000}, 1000}, {api.Persist{Up: 999, Down: 999, Most: 999}, 999},
		// Up and Down may be more than Most.
		{api.Persist{Up: 1000, Down: 1000, Most: 1}, 0}, {api.Persist{Up: 1000, Down: 1000, Most: 1}, 1},
	} {
		for _, set := range []bool{false, true} {
			if e := Check(x.p, api.Count{N: x.n, Set: set}); e != api.OK {
				t.Errorf("Check(%v, {%d %v}) = %d, want OK", x.p, x.n, set, e)
			}
		}
	}
}

// P18.
func TestCheckWrong(t *testing.T) {
	for _, x := range wrong() {
		if e := Check(x.p, x.c); e != api.ErrArg {
			t.Errorf("Check(%v, %v) = %d, want ErrArg", x.p, x.c, e)
		}
	}
}

// P18: every number near a bound, with every other.
func TestCheckEverywhere(t *testing.T) {
	near := []int{-1, 0, 1, 2, 999, 1000, 1001}
	for _, up := range near {
		for _, down := range near {
			for _, most := range near {
				for _, n := range near {
					want := api.OK
					if up < 1 || up > 1000 || down < 0 || down > 1000 || most < 1 || most > 1000 || n < 0 || n > most {
						want = api.ErrArg
					}
					p := api.Persist{Up: up, Down: down, Most: most}
					if e := Check(p, api.Count{N: n}); e != want {
						t.Fatalf("Check(%v, %d) = %d, want %d", p, n, e, want)
					}
				}
			}
		}
	}
}

// P19.
func TestStep(t *testing.T) {
	p := api.Persist{Up: 2, Down: 1, Most: 4}
	stays := api.Persist{Up: 1, Down: 0, Most: 3}
	great := api.Persist{Up: 1000, Down: 1000, Most: 1000}
	small := api.Persist{Up: 1000, Down: 1000, Most: 1}
	for _, x := range []struct {
		p    api.Persist
		c    api.Count
		bad  bool
		want api.Count
	}{
		{p, api.Count{}, true, api.Count{N: 2}}, {p, api.Count{N: 1}, true, api.Count{N: 3}},
		{p, api.Count{N: 3}, false, api.Count{N: 2}}, {p, api.Count{N: 1}, false, api.Count{}},
		// To Most, and not beyond it.
		{p, api.Count{N: 2}, true, api.Count{N: 4, Set: true}}, {p, api.Count{N: 3}, true, api.Count{N: 4, Set: true}},
		{p, api.Count{N: 4}, true, api.Count{N: 4, Set: true}},
		{great, api.Count{}, true, api.Count{N: 1000, Set: true}}, {great, api.Count{N: 999}, true, api.Count{N: 1000, Set: true}},
		{small, api.Count{}, true, api.Count{N: 1, Set: true}},
		// To 0, and not beyond it.
		{p, api.Count{}, false, api.Count{}}, {great, api.Count{N: 999}, false, api.Count{}}, {great, api.Count{N: 1}, false, api.Count{}},
		{small, api.Count{}, false, api.Count{}},
		// What was Set stays so, wherever N is.
		{p, api.Count{N: 4, Set: true}, false, api.Count{N: 3, Set: true}}, {p, api.Count{N: 1, Set: true}, false, api.Count{Set: true}},
		{p, api.Count{Set: true}, false, api.Count{Set: true}}, {p, api.Count{Set: true}, true, api.Count{N: 2, Set: true}},
		{p, api.Count{N: 4, Set: true}, true, api.Count{N: 4, Set: true}}, {great, api.Count{N: 1000, Set: true}, false, api.Count{Set: true}},
		// N was Most, but is not then: not Set.
		{p, api.Count{N: 4}, false, api.Count{N: 3}}, {great, api.Count{N: 1000}, false, api.Count{}}, {small, api.Count{N: 1}, false, api.Count{}},
		// Down by nothing: N is Most then, though nothing was bad.
		{stays, api.Count{N: 3}, false, api.Count{N: 3, Set: true}}, {stays, api.Count{N: 2}, false, api.Count{N: 2}},
		{stays, api.Count{}, false, api.Count{}}, {stays, api.Count{N: 2}, true, api.Count{N: 3, Set: true}},
	} {
		if got, e := Step(x.p, x.c, x.bad); got != x.want || e != api.OK {
			t.Errorf("Step(%v, %v, %v) = %v, %d, want %v, OK", x.p, x.c, x.bad, got, e, x.want)
		}
	}
}

// plain goes by ones, as the words say it.
func plain(p api.Persist, c api.Count, bad bool) api.Count {
	if bad {
		for range p.Up {
			if c.N < p.Most {
				c.N++
			}
		}
	} else {
		for range p.Down {
			if c.N > 0 {
				c.N--
			}
		}
	}
	if c.N == p.Most {
		c.Set = true
	}
	return c
}

// P19: all small counts.
func TestStepEverywhere(t *testing.T) {
	for most := 1; most <= 6; most++ {
		for up := 1; up <= 8; up++ {
			for down := 0; down <= 8; down++ {
				for n := 0; n <= most; n++ {
					for k := range 4 {
						p := api.Persist{Up: up, Down: down, Most: most}
						c, bad := api.Count{N: n, Set: k&1 != 0}, k&2 != 0
						want := plain(p, c, bad)
						if got, e := Step(p, c, bad); got != want || e != api.OK {
							t.Fatalf("Step(%v, %v, %v) = %v, %d, want %v, OK", p, c, bad, got, e, want)
						}
					}
				}
			}
		}
	}
}

// P19.
func TestStepWrong(t *testing.T) {
	for _, x := range wrong() {
		for _, bad := range []bool{false, true} {
			if got, e := Step(x.p, x.c, bad); got != (api.Count{}) || e != api.ErrArg {
				t.Errorf("Step(%v, %v, %v) = %v, %d, want nothing, ErrArg", x.p, x.c, bad, got, e)
			}
		}
	}
}

// frames reads a text: b is bad, all else good.
func frames(text string) []bool {
	l := make([]bool, len(text))
	for k := range text {
		l[k] = text[k] == 'b'
	}
	return l
}

// P20.
func TestRun(t *testing.T) {
	p := api.Persist{Up: 2, Down: 1, Most: 4}
	stays := api.Persist{Up: 1, Down: 0, Most: 3}
	for _, x := range []struct {
		p    api.Persist
		c    api.Count
		bad  string
		want api.Count
		at   int
	}{
		{p, api.Count{}, "bgbb", api.Count{N: 4, Set: true}, 3}, {p, api.Count{}, "bgbbgg", api.Count{N: 2, Set: true}, 3},
		{p, api.Count{}, "bb", api.Count{N: 4, Set: true}, 1}, {p, api.Count{N: 3}, "b", api.Count{N: 4, Set: true}, 0},
		// At none.
		{p, api.Count{}, "", api.Count{}, -1}, {p, api.Count{N: 3}, "", api.Count{N: 3}, -1}, {p, api.Count{N: 3, Set: true}, "", api.Count{N: 3, Set: true}, -1},
		{p, api.Count{}, "ggg", api.Count{}, -1}, {p, api.Count{}, "bggbggb", api.Count{N: 2}, -1}, {p, api.Count{}, "b", api.Count{N: 2}, -1},
		// No frame, no step: N is Most and still it is not Set.
		{p, api.Count{N: 4}, "", api.Count{N: 4}, -1},
		// Set before: at none, though it comes to Most again.
		{p, api.Count{Set: true}, "bb", api.Count{N: 4, Set: true}, -1}, {p, api.Count{N: 4, Set: true}, "b", api.Count{N: 4, Set: true}, -1},
		{p, api.Count{N: 4, Set: true}, "gggggg", api.Count{Set: true}, -1},
		// The first time counts, not a later one.
		{p, api.Count{}, "bbggggbb", api.Count{N: 4, Set: true}, 1}, {p, api.Count{}, "bbbbb", api.Count{N: 4, Set: true}, 1},
		{p, api.Count{N: 4}, "ggggbb", api.Count{N: 4, Set: true}, 5},
		// At Most and good at first.
		{p, api.Count{N: 4}, "gb", api.Count{N: 4, Set: true}, 1}, {p, api.Count{N: 4}, "g", api.Count{N: 3}, -1},
		{stays, api.Count{N: 3}, "g", api.Count{N: 3, Set: true}, 0}, {stays, api.Count{N: 3}, "gbg", api.Count{N: 3, Set: true}, 0},
		{stays, api.Count{}, "gbgbggbg", api.Count{N: 3, Set: true}, 6},
		{api.Persist{Up: 1000, Down: 1000, Most: 1}, api.Count{}, "gbg", api.Count{Set: true}, 1},
	} {
		if got, at, e := Run(x.p, x.c, frames(x.bad)); got != x.want || at != x.at || e != api.OK {
			t.Errorf("Run(%v, %v, %q) = %v, %d, %d, want %v, %d, OK", x.p, x.c, x.bad, got, at, e, x.want, x.at)
		}
	}
}

// P20: no list is too long.
func TestRunLong(t *testing.T) {
	p := api.Persist{Up: 1, Down: 1, Most: 1000}
	for _, many := range []int{999, 1000, 1001, 100000} {
		at := -1
		if many >= 1000 {
			at = 999
		}
		want := api.Count{N: min(many, 1000), Set: many >= 1000}
		if got, k, e := Run(p, api.Count{}, slices.Repeat([]bool{true}, many)); got != want || k != at || e != api.OK {
			t.Errorf("Run of %d = %v, %d, %d, want %v, %d, OK", many, got, k, e, want, at)
		}
	}
}

// P20: Run is Step, again and again.
func TestRunIsSteps(t *testing.T) {
	r := rand.New(rand.NewSource(20))
	for range 5000 {
		p := api.Persist{Up: 1 + r.Intn(9), Down: r.Intn(9), Most: 1 + r.Intn(40)}
		first := api.Count{N: r.Intn(p.Most + 1), Set: r.Intn(4) == 0}
		bad := make([]bool, r.Intn(60))
		want, at := first, -1
		for k := range bad {
			bad[k] = r.Intn(2) == 0
			was := want.Set
			want, _ = Step(p, want, bad[k])
			if want.Set != was {
				at = k
			}
		}
		if got, k, e := Run(p, first, bad); got != want || k != at || e != api.OK {
			t.Fatalf("Run(%v, %v, %v) = %v, %d, %d, want %v, %d, OK", p, first, bad, got, k, e, want, at)
		}
	}
}

// P20.
func TestRunWrong(t *testing.T) {
	for _, x := range wrong() {
		for _, bad := range []string{"", "b", "g", "bbbgggbbb"} {
			if got, at, e := Run(x.p, x.c, frames(bad)); got != (api.Count{}) || at != 0 || e != api.ErrArg {
				t.Errorf("Run(%v, %v, %q) = %v, %d, %d, want nothing, 0, ErrArg", x.p, x.c, bad, got, at, e)
			}
		}
	}
}

// P20: a list that has nothing in it may be nil or empty.
func TestRunOfNone(t *testing.T) {
	p := api.Persist{Up: 2, Down: 1, Most: 4}
	for _, bad := range [][]bool{nil, {}, frames("bbbb")[:0]} {
		if got, at, e := Run(p, api.Count{N: 3}, bad); got != (api.Count{N: 3}) || at != -1 || e != api.OK {
			t.Errorf("Run of none = %v, %d, %d, want {3 false}, -1, OK", got, at, e)
		}
	}
}

// P2: what is handed in stays, the memory behind the list too, and what is told
// again is the same.
func TestNothingIsChanged(t *testing.T) {
	p := api.Persist{Up: 2, Down: 1, Most: 4}
	for _, c := range []api.Count{{}, {N: 4}, {N: 1, Set: true}, {N: 9}} {
		whole := frames("bgbbggbgbbbg")
		was := slices.Clone(whole)
		got, at, e := Run(p, c, whole[:6])
		if again, k, f := Run(p, c, whole[:6]); again != got || k != at || f != e {
			t.Errorf("Run from %v told %v, %d, %d and then %v, %d, %d", c, got, at, e, again, k, f)
		}
		if !slices.Equal(whole, was) {
			t.Errorf("Run from %v changed what was handed in", c)
		}
		one, e := Step(p, c, true)
		if again, f := Step(p, c, true); again != one || f != e {
			t.Errorf("Step from %v told %v, %d and then %v, %d", c, one, e, again, f)
		}
	}
}
