package watch

import (
	"math"
	"math/big"
	"math/rand"
	"testing"

	"steadyhand/api"
)

const (
	least = math.MinInt32
	most  = math.MaxInt32
)

type (
	counts = [5]api.Count
	signs  = [5]bool
)

// edges are the numbers at and beside which a type ends or a sign turns.
var edges = []int32{least, least + 1, least / 2, -2, -1, 0, 1, 2, most/2 + 1, most - 1, most}

// notCounts are numbers that are beyond every bound of a Persist, some of which
// are within it in their lower bits.
var notCounts = []int{-1, -2, -1000, 1001, 1002, 65537, 1<<32 + 1, 1 - 1<<32, 1 << 32, math.MaxInt, math.MinInt, math.MinInt + 1}

// right passes Check with counts from 0 to 3.
var right = api.Watch{Most: [5]int32{1, 2, 3, 4, 5}, Persist: api.Persist{Up: 2, Down: 1, Most: 3}}

// well is a lane of which no sign is bad, whatever the bounds are.
var well = api.Lane{Valid: true}

// distance is never short of room.
func distance(a, b int32) *big.Int {
	n := new(big.Int).Sub(big.NewInt(int64(a)), big.NewInt(int64(b)))
	return n.Abs(n)
}

func above(n *big.Int, bound int32) bool { return n.Cmp(big.NewInt(int64(bound))) > 0 }

// force is n without its sign: the least number is the greatest one then.
func force(n int32) *big.Int {
	if n == least {
		return big.NewInt(most)
	}
	return distance(n, 0)
}

// workedLook goes word by word through the promise.
func workedLook(w api.Watch, x api.Lane) signs {
	var l signs
	l[0] = above(distance(x.Valve, x.Spool), w.Most[0])
	l[1] = above(distance(x.Pos, x.Mid), w.Most[1])
	l[2] = above(distance(x.Pos, x.Track), w.Most[2])
	l[3] = above(force(x.Fight), w.Most[3])
	if !x.Valid {
		l[4] = true
	}
	return l
}

// workedCount goes by ones through what chapter 5 says of a step.
func workedCount(p api.Persist, c api.Count, bad bool) api.Count {
	for k := 0; bad && k < p.Up && c.N < p.Most; k++ {
		c.N++
	}
	for k := 0; !bad && k < p.Down && c.N > 0; k++ {
		c.N--
	}
	if c.N == p.Most {
		c.Set = true
	}
	return c
}

// workedStep of what Check lets through.
func workedStep(w api.Watch, s counts, x api.Lane) (counts, bool) {
	bad, many := workedLook(w, x), 0
	for k := 4; k >= 0; k-- {
		s[k] = workedCount(w.Persist, s[k], bad[k])
		if s[k].Set {
			many++
		}
	}
	return s, many > 0
}

// workedCheck goes word by word through the promise; all its errors are one.
func workedCheck(w api.Watch, s counts) api.Errno {
	wrong := false
	p := w.Persist
	for k := range 5 {
		wrong = wrong || w.Most[k] < 0 || s[k].N < 0 || s[k].N > p.Most
	}
	if wrong || p.Up < 1 || p.Up > 1000 || p.Most < 1 || p.Most > 1000 || p.Down < 0 || p.Down > 1000 {
		return api.ErrArg
	}
	return api.OK
}

func mustCheck(t *testing.T, w api.Watch, s counts, want api.Errno) {
	t.Helper()
	if e := Check(w, s); e != want {
		t.Fatalf("Check(%+v, %+v) = %d, want %d", w, s, e, want)
	}
}

func mustLook(t *testing.T, w api.Watch, x api.Lane, want signs) {
	t.Helper()
	if got := Look(w, x); got != want {
		t.Fatalf("Look(%+v, %+v) = %t, want %t", w, x, got, want)
	}
}

func mustStep(t *testing.T, w api.Watch, s counts, x api.Lane, want counts, set bool) {
	t.Helper()
	if got, is, e := Step(w, s, x); got != want || is != set || e != api.OK {
		t.Fatalf("Step(%+v, %+v, %+v) = %+v, %t, %d, want %+v, %t, OK", w, s, x, got, is, e, want, set)
	}
}

func mustWork(t *testing.T, w api.Watch, s counts, x api.Lane) {
	t.Helper()
	want, set := workedStep(w, s, x)
	mustStep(t, w, s, x, want, set)
}

// mustFail tells nothing beside the error.
func mustFail(t *testing.T, w api.Watch, s counts, x api.Lane) {
	t.Helper()
	if got, set, e := Step(w, s, x); got != (counts{}) || set || e != api.ErrArg {
		t.Fatalf("Step(%+v, %+v, %+v) = %+v, %t, %d, want nothing, false, ErrArg", w, s, x, got, set, e)
	}
}

// only tells of one sign alone that it is bad.
func only(sign int) signs {
	var l signs
	l[sign] = true
	return l
}

// bounds has the same one for each sign.
func bounds(n int32) api.Watch { return api.Watch{Most: [5]int32{n, n, n, n, n}} }

// each count is the same.
func each(c api.Count) counts { return counts{c, c, c, c, c} }

// alone has a count of that sign, and of no other.
func alone(sign int, c api.Count) counts {
	var s counts
	s[sign] = c
	return s
}

// ill is a lane of which those signs are bad that are told, with bounds up to 9.
func ill(bad signs) api.Lane {
	x := well
	if bad[0] {
		x.Spool = 10
	}
	if bad[1] {
		x.Mid = 10
	}
	if bad[2] {
		x.Track = -10
	}
	if bad[3] {
		x.Fight = -10
	}
	x.Valid = !bad[4]
	return x
}

// everySigns are all that Look may answer.
func everySigns() []signs {
	var l []signs
	for bits := range 32 {
		var one signs
		for k := range one {
			one[k] = bits>>k&1 == 1
		}
		l = append(l, one)
	}
	return l
}

// someNumber is near to 0, an edge, or of any length.
func someNumber(r *rand.Rand) int32 {
	switch r.Intn(3) {
	case 0:
		return int32(r.Intn(21) - 10)
	case 1:
		return edges[r.Intn(len(edges))]
	default:
		return int32(r.Uint32()) >> r.Intn(32)
	}
}

func someLane(r *rand.Rand) api.Lane {
	x := api.Lane{Valve: someNumber(r), Spool: someNumber(r), Pos: someNumber(r), Mid: someNumber(r), Track: someNumber(r), Fight: someNumber(r)}
	x.Valid = r.Intn(2) == 0
	return x
}

// someWatch with counts that Check lets through.
func someWatch(r *rand.Rand) (api.Watch, counts) {
	w := api.Watch{Persist: api.Persist{Up: 1 + r.Intn(9), Down: r.Intn(9), Most: 1 + r.Intn(12)}}
	if r.Intn(3) == 0 {
		w.Persist = api.Persist{Up: 1 + r.Intn(1000), Down: r.Intn(1001), Most: 1 + r.Intn(1000)}
	}
	var s counts
	for k := range s {
		w.Most[k] = someNumber(r) & most
		s[k] = api.Count{N: r.Intn(w.Persist.Most + 1), Set: r.Intn(12) == 0}
	}
	return w, s
}

type pair struct {
	w api.Watch
	s counts
}

// wrong are pairs of which Check tells ErrArg, for one thing each.
func wrong() []pair {
	var l []pair
	for sign := range 5 {
		for _, n := range []int32{-1, -2, -65536, least, least + 1} {
			x := pair{w: right}
			x.w.Most[sign] = n
			l = append(l, x)
		}
		for _, n := range append([]int{4, 5, 1000}, notCounts...) {
			for _, set := range []bool{false, true} {
				x := pair{w: right, s: each(api.Count{N: 3})}
				x.s[sign] = api.Count{N: n, Set: set}
				l = append(l, x)
			}
		}
	}
	for _, n := range notCounts {
		up, down, top := pair{w: right}, pair{w: right}, pair{w: right}
		up.w.Persist.Up, down.w.Persist.Down, top.w.Persist.Most = n, n, n
		l = append(l, up, down, top)
	}
	up, top := pair{w: right}, pair{w: right}
	up.w.Persist.Up, top.w.Persist.Most = 0, 0
	return append(l, up, top, pair{}, pair{w: bounds(9)}, pair{w: bounds(-1)})
}

// P44: bounds from 0 on, and what count.Check lets through.
func TestCheck(t *testing.T) {
	mustCheck(t, right, counts{}, api.OK)
	mustCheck(t, right, counts{{N: 1}, {N: 2, Set: true}, {N: 3}, {Set: true}, {N: 3, Set: true}}, api.OK)
	for _, n := range []int32{0, 1, 65536, most - 1, most} {
		for _, p := range []api.Persist{{Up: 1, Most: 1}, {Up: 1000, Down: 1000, Most: 1000}, {Up: 1000, Down: 1000, Most: 1}, {Up: 1, Most: 1000}, {Up: 5, Down: 3, Most: 20}} {
			w := bounds(n)
			w.Persist = p
			for _, c := range []api.Count{{}, {Set: true}, {N: 1}, {N: p.Most}, {N: p.Most, Set: true}} {
				mustCheck(t, w, each(c), api.OK)
			}
		}
	}
}

// P44: each sign has its own bound and its own count.
func TestCheckWrong(t *testing.T) {
	for _, x := range wrong() {
		mustCheck(t, x.w, x.s, api.ErrArg)
	}
}

// P44: each sign by itself, each edge beside each.
func TestCheckEverywhere(t *testing.T) {
	for sign := range 5 {
		for _, bound := range edges {
			for _, up := range []int{-1, 0, 1, 1000, 1001} {
				for _, down := range []int{-1, 0, 1, 1000, 1001} {
					for _, top := range []int{-1, 0, 1, 2, 1000, 1001} {
						for _, n := range []int{-1, 0, 1, 2, 3, 999, 1000, 1001} {
							w := api.Watch{Persist: api.Persist{Up: up, Down: down, Most: top}}
							w.Most[sign] = bound
							var s counts
							s[sign].N = n
							mustCheck(t, w, s, workedCheck(w, s))
						}
					}
				}
			}
		}
	}
}

// P45: a lane as it may be, and that each sign is where its number says.
func TestLook(t *testing.T) {
	w := api.Watch{Most: [5]int32{1, 1, 5, 5, 0}}
	mustLook(t, w, api.Lane{Valve: 3, Spool: 1, Pos: 4, Mid: 4, Track: 9, Fight: -6}, signs{true, false, false, true, true})
	mustLook(t, w, api.Lane{Valve: 2, Spool: 1, Pos: 4, Mid: 6, Track: 10, Fight: 5, Valid: true}, signs{false, true, true, false, false})
	mustLook(t, w, well, signs{})
	if api.SValve != 0 || api.SPlace != 1 || api.STrack != 2 || api.SForce != 3 || api.SSense != 4 {
		t.Error("the signs have other numbers")
	}
	for _, bad := range everySigns() {
		mustLook(t, bounds(9), ill(bad), bad)
	}
}

// P45: which number belongs to which sign: all else far off makes none bad.
func TestLookAtEach(t *testing.T) {
	w := bounds(2)
	for _, n := range []int32{3, 50, -3, -50} {
		mustLook(t, w, api.Lane{Valve: n, Valid: true}, only(api.SValve))
		mustLook(t, w, api.Lane{Spool: n, Valid: true}, only(api.SValve))
		mustLook(t, w, api.Lane{Mid: n, Valid: true}, only(api.SPlace))
		mustLook(t, w, api.Lane{Track: n, Valid: true}, only(api.STrack))
		mustLook(t, w, api.Lane{Fight: n, Valid: true}, only(api.SForce))
		mustLook(t, w, api.Lane{Pos: n, Valid: true}, signs{1: true, 2: true})
		mustLook(t, w, api.Lane{Pos: n, Mid: n, Valid: true}, only(api.STrack))
		mustLook(t, w, api.Lane{Pos: n, Track: n, Valid: true}, only(api.SPlace))
		mustLook(t, w, api.Lane{Mid: n, Track: n, Valid: true}, signs{1: true, 2: true})
		mustLook(t, w, api.Lane{Pos: n, Mid: n, Track: n, Valid: true}, signs{})
		mustLook(t, w, api.Lane{Valve: n, Spool: n, Valid: true}, signs{})
	}
	mustLook(t, w, api.Lane{}, only(api.SSense))
}

// P45: each sign has the bound of its number, and that is not bad yet; one farther
// is, on both sides.
func TestLookAtTheBound(t *testing.T) {
	w := api.Watch{Most: [5]int32{10, 20, 30, 40, 50}}
	for _, from := range []int32{0, 7, -7, 1000, -1000} {
		for side := int32(-1); side <= 1; side += 2 {
			x := api.Lane{Valve: from, Pos: from, Valid: true}
			x.Spool, x.Mid, x.Track, x.Fight = from+10*side, from+20*side, from+30*side, 40*side
			mustLook(t, w, x, signs{})
			valve, place, track, fight := x, x, x, x
			valve.Spool, place.Mid, track.Track, fight.Fight = x.Spool+side, x.Mid+side, x.Track+side, x.Fight+side
			mustLook(t, w, valve, only(api.SValve))
			mustLook(t, w, place, only(api.SPlace))
			mustLook(t, w, track, only(api.STrack))
			mustLook(t, w, fight, only(api.SForce))
		}
	}
	// With a bound of 0 the same is good, and nothing else.
	mustLook(t, api.Watch{}, well, signs{})
	mustLook(t, api.Watch{}, api.Lane{Valve: 5, Spool: 5, Pos: -5, Mid: -5, Track: -5, Valid: true}, signs{})
	mustLook(t, api.Watch{}, api.Lane{Valve: 1, Pos: 1, Fight: -1, Valid: true}, signs{true, true, true, true, false})
}

// P45: how far apart is not saturated; Fight without its sign is.
func TestLookAtTheEnds(t *testing.T) {
	w := bounds(most)
	far := api.Lane{Valve: most, Spool: least, Pos: least, Mid: most, Track: most, Valid: true}
	mustLook(t, w, far, signs{true, true, true, false, false})
	far = api.Lane{Valve: least, Spool: most, Pos: most, Mid: least, Track: least, Valid: true}
	mustLook(t, w, far, signs{true, true, true, false, false})
	mustLook(t, w, api.Lane{Valve: most, Spool: -1, Pos: most, Mid: -1, Track: 0, Valid: true}, signs{true, true, false, false, false})
	mustLook(t, w, api.Lane{Valve: least, Spool: -1, Pos: least, Mid: 0, Track: -1, Valid: true}, signs{1: true})
	mustLook(t, w, api.Lane{Valve: least, Pos: 0, Mid: -most, Track: least, Valid: true}, signs{true, false, true, false, false})
	for _, n := range []int32{least, least + 1, most} {
		mustLook(t, w, api.Lane{Fight: n, Valid: true}, signs{})
		mustLook(t, bounds(most-1), api.Lane{Fight: n, Valid: true}, only(api.SForce))
	}
	mustLook(t, bounds(most-1), api.Lane{Fight: least + 2, Valid: true}, signs{})
}

// P45: not Valid is bad whatever the bound of SSense is, Valid is good.
func TestLookAtSense(t *testing.T) {
	for _, n := range edges {
		w := bounds(most)
		w.Most[api.SSense] = n
		mustLook(t, w, well, signs{})
		mustLook(t, w, api.Lane{}, only(api.SSense))
	}
}

// P45: Look has no error: of a bound below 0 everything is above it.
func TestLookBelowZero(t *testing.T) {
	for _, n := range []int32{-1, -2, least} {
		mustLook(t, bounds(n), well, signs{true, true, true, true, false})
		mustLook(t, bounds(n), api.Lane{Valve: most, Spool: least, Fight: least}, signs{true, true, true, true, true})
		for sign := range 4 {
			w := bounds(9)
			w.Most[sign] = n
			mustLook(t, w, well, only(sign))
		}
	}
}

// P45: each edge beside each, and any, beside a second way.
func TestLookEverywhere(t *testing.T) {
	for _, a := range edges {
		for _, b := range edges {
			for _, c := range edges {
				for _, bound := range edges {
					x := api.Lane{Valve: a, Spool: b, Pos: b, Mid: c, Track: a, Fight: c, Valid: a < b}
					mustLook(t, bounds(bound), x, workedLook(bounds(bound), x))
				}
			}
		}
	}
	r := rand.New(rand.NewSource(45))
	for range 60000 {
		w, _ := someWatch(r)
		for k := range w.Most {
			if r.Intn(9) == 0 {
				w.Most[k] = someNumber(r)
			}
		}
		x := someLane(r)
		mustLook(t, w, x, workedLook(w, x))
	}
}

// P45: whose two numbers are exchanged is as far apart.
func TestLookEitherWay(t *testing.T) {
	r := rand.New(rand.NewSource(145))
	for range 20000 {
		w, _ := someWatch(r)
		x := someLane(r)
		x.Track = x.Mid
		y := x
		y.Valve, y.Spool = x.Spool, x.Valve
		y.Pos, y.Mid, y.Track = x.Mid, x.Pos, x.Pos
		mustLook(t, w, y, Look(w, x))
	}
}

// P46: frame by frame, each sign in its own count.
func TestStep(t *testing.T) {
	w := bounds(9)
	w.Persist = api.Persist{Up: 2, Down: 1, Most: 4}
	var s counts
	for _, x := range []struct {
		bad  signs
		want counts
		set  bool
	}{
		{signs{}, counts{}, false},
		{signs{true, true, false, false, false}, counts{{N: 2}, {N: 2}}, false},
		{signs{false, true, true, false, false}, counts{{N: 1}, {N: 4, Set: true}, {N: 2}}, true},
		// What is Set stays so, and is told though nothing is bad.
		{signs{}, counts{{}, {N: 3, Set: true}, {N: 1}}, true},
		{signs{}, counts{{}, {N: 2, Set: true}, {}}, true},
		{signs{false, false, false, true, true}, counts{{}, {N: 1, Set: true}, {}, {N: 2}, {N: 2}}, true},
		{signs{true, false, false, false, true}, counts{{N: 2}, {Set: true}, {}, {N: 1}, {N: 4, Set: true}}, true},
		{signs{true, true, true, true, true}, counts{{N: 4, Set: true}, {N: 2, Set: true}, {N: 2}, {N: 3}, {N: 4, Set: true}}, true},
	} {
		mustStep(t, w, s, ill(x.bad), x.want, x.set)
		s = x.want
	}
}

// P46: all that may be bad, beside all that may be Set: any one of them is told.
func TestStepOfEverySign(t *testing.T) {
	w := bounds(9)
	for _, p := range []api.Persist{{Up: 1, Down: 1, Most: 1}, {Up: 1, Down: 1, Most: 3}, {Up: 2, Down: 0, Most: 2}, {Up: 1000, Down: 1000, Most: 1000}} {
		w.Persist = p
		for _, bad := range everySigns() {
			for _, set := range everySigns() {
				for n := 0; n <= min(p.Most, 3); n++ {
					var s counts
					for k := range s {
						s[k] = api.Count{N: n, Set: set[k]}
					}
					mustWork(t, w, s, ill(bad))
				}
			}
		}
	}
}

// P46: it is the count behind the frame that tells, not the one ahead of it, and
// not whether a sign is bad.
func TestStepTellsWhatIsSet(t *testing.T) {
	for sign := range 5 {
		w := bounds(9)
		w.Persist = api.Persist{Up: 1, Down: 1, Most: 2}
		bad := ill(only(sign))
		mustStep(t, w, counts{}, bad, alone(sign, api.Count{N: 1}), false)
		s := alone(sign, api.Count{N: 2, Set: true})
		mustStep(t, w, alone(sign, api.Count{N: 1}), bad, s, true)
		// At Most but not Set: good, it goes down, and is not Set.
		mustStep(t, w, alone(sign, api.Count{N: 2}), well, alone(sign, api.Count{N: 1}), false)
		// With Down 0 it stays at Most, and is Set though it was good.
		w.Persist.Down = 0
		mustStep(t, w, alone(sign, api.Count{N: 2}), well, s, true)
		mustStep(t, w, alone(sign, api.Count{Set: true}), well, alone(sign, api.Count{Set: true}), true)
	}
}

// P46: who is well never comes to be Set, who is ill in one sign is in that alone.
func TestStepBlamesNoOther(t *testing.T) {
	for sign := range 5 {
		w := bounds(9)
		w.Persist = api.Persist{Up: 3, Down: 2, Most: 1000}
		var s counts
		for k := range 400 {
			got, set, e := Step(w, s, ill(only(sign)))
			if e != api.OK || set != (k >= 333) {
				t.Fatalf("in frame %d of sign %d: %+v, %t, %d", k, sign, got, set, e)
			}
			s = got
		}
		if s != alone(sign, api.Count{N: 1000, Set: true}) {
			t.Errorf("of sign %d alone comes %+v", sign, s)
		}
		s = counts{}
		for range 400 {
			mustStep(t, w, s, well, counts{}, false)
		}
	}
}

// P46: any, beside a second way; and what is told passes Check again.
func TestStepEverywhere(t *testing.T) {
	r := rand.New(rand.NewSource(46))
	for range 60000 {
		w, s := someWatch(r)
		x := someLane(r)
		mustWork(t, w, s, x)
		after, _, _ := Step(w, s, x)
		mustCheck(t, w, after, api.OK)
	}
}

// P46: Check's error whatever the lane is, and nothing beside it.
func TestStepWrong(t *testing.T) {
	for _, x := range wrong() {
		for _, y := range []api.Lane{well, {}, ill(signs{true, true, true, true, true}), {Valve: most, Spool: least, Pos: least, Mid: most, Track: most, Fight: least}} {
			mustFail(t, x.w, x.s, y)
			for k := range x.s {
				x.s[k].Set = true
			}
			mustFail(t, x.w, x.s, y)
		}
	}
}

// P2: what is handed in stays as it is, and what is told again is the same,
// whatever was asked between.
func TestNothingIsKept(t *testing.T) {
	r := rand.New(rand.NewSource(2))
	for range 3000 {
		w, s := someWatch(r)
		x := someLane(r)
		wasW, wasS, wasX := w, s, x
		look := Look(w, x)
		after, set, e := Step(w, s, x)
		if w != wasW || s != wasS || x != wasX {
			t.Fatalf("Step of %+v, %+v, %+v left %+v, %+v, %+v", wasW, wasS, wasX, w, s, x)
		}
		other, others := someWatch(r)
		Look(other, someLane(r))
		Step(other, others, someLane(r))
		Step(api.Watch{}, others, someLane(r))
		mustLook(t, w, x, look)
		if got, is, f := Step(w, s, x); got != after || is != set || f != e {
			t.Fatalf("Step told %+v, %t, %d and then %+v, %t, %d", after, set, e, got, is, f)
		}
	}
}
