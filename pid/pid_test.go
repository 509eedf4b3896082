package pid

import (
	"math"
	"math/big"
	"math/rand"
	"slices"
	"testing"

	"steadyhand/api"
)

const (
	one   = 65536
	least = math.MinInt32
	most  = math.MaxInt32
)

// edges are the numbers at and beside which a type ends, a point stands or a
// sign turns.
var edges = []int32{
	least, least + 1, least / 2, -one - 1, -one, -one + 1, -one / 2, -2, -1,
	0, 1, 2, one / 2, one - 1, one, one + 1, most/2 + 1, most - 1, most,
}

// few of them, where each is tried beside each.
var few = []int32{least, -one, -1, 0, 1, one / 2, most}

// nearest to n of what 32 bits hold, from a number without end.
func nearest(n *big.Int) int32 {
	if n.Cmp(big.NewInt(least)) < 0 {
		return least
	}
	if n.Cmp(big.NewInt(most)) > 0 {
		return most
	}
	return int32(n.Int64())
}

func wide(n int32) *big.Int { return big.NewInt(int64(n)) }

func plus(a, b int32) int32 { return nearest(new(big.Int).Add(wide(a), wide(b))) }

func less(a, b int32) int32 { return nearest(new(big.Int).Sub(wide(a), wide(b))) }

// times rounds to the nearest, halves up: twice the product, and one half more,
// rounded down.
func times(a, b int32) int32 {
	twice := new(big.Int).Mul(wide(a), wide(b))
	twice.Lsh(twice, 1)
	twice.Add(twice, big.NewInt(one))
	return nearest(twice.Div(twice, big.NewInt(2*one)))
}

func between(n, low, high int32) int32 {
	three := []int32{n, low, high}
	slices.Sort(three)
	return three[1]
}

// worked goes word by word through the promise, of what Check lets through.
func worked(g api.Gain, s api.Pid, err int32) (api.Pid, int32) {
	sum := between(plus(s.Sum, times(g.I, err)), g.Low, g.High)
	out := plus(times(g.P, err), sum)
	out = plus(out, times(g.D, less(err, s.Last)))
	kept := api.Pid{Sum: sum, Last: err}
	if out > g.High && sum > s.Sum {
		kept.Sum = s.Sum
	}
	if out < g.Low && sum < s.Sum {
		kept.Sum = s.Sum
	}
	return kept, between(out, g.Low, g.High)
}

func mustStep(t *testing.T, g api.Gain, s api.Pid, err int32, want api.Pid, wantOut int32) {
	t.Helper()
	if got, out, e := Step(g, s, err); got != want || out != wantOut || e != api.OK {
		t.Fatalf("Step(%+v, %+v, %d) = %+v, %d, %d, want %+v, %d, OK", g, s, err, got, out, e, want, wantOut)
	}
}

func mustWork(t *testing.T, g api.Gain, s api.Pid, err int32) {
	t.Helper()
	want, out := worked(g, s, err)
	mustStep(t, g, s, err, want, out)
}

func mustRun(t *testing.T, g api.Gain, s api.Pid, errs []int32, want api.Pid, wantOuts []int32) {
	t.Helper()
	if got, outs, e := Run(g, s, errs); got != want || !slices.Equal(outs, wantOuts) || e != api.OK {
		t.Fatalf("Run(%+v, %+v, %v) = %+v, %v, %d, want %+v, %v, OK", g, s, errs, got, outs, e, want, wantOuts)
	}
}

// someNumber is near to 0, an edge, or of any length.
func someNumber(r *rand.Rand) int32 {
	switch r.Intn(3) {
	case 0:
		return int32(r.Intn(41) - 20)
	case 1:
		return edges[r.Intn(len(edges))]
	default:
		return int32(r.Uint32()) >> r.Intn(32)
	}
}

func someNumbers(r *rand.Rand, many int) []int32 {
	l := make([]int32, many)
	for k := range l {
		l[k] = someNumber(r)
	}
	return l
}

// someGain with a Pid that Check lets through.
func someGain(r *rand.Rand) (api.Gain, api.Pid) {
	three := someNumbers(r, 3)
	slices.Sort(three)
	g := api.Gain{P: someNumber(r), I: someNumber(r), D: someNumber(r), Low: three[0], High: three[2]}
	return g, api.Pid{Sum: three[1], Last: someNumber(r)}
}

// wrong are pairs of which Check tells ErrArg: a Sum outside of the bounds, and
// bounds that stand the other way, whatever the Sum.
func wrong() []struct {
	g api.Gain
	s api.Pid
} {
	type pair = struct {
		g api.Gain
		s api.Pid
	}
	l := []pair{
		{api.Gain{Low: 1, High: 2}, api.Pid{}}, {api.Gain{Low: -2, High: -1}, api.Pid{}},
		{api.Gain{Low: -20, High: 20}, api.Pid{Sum: 21}}, {api.Gain{Low: -20, High: 20}, api.Pid{Sum: -21}},
		{api.Gain{Low: -20, High: 20}, api.Pid{Sum: most}}, {api.Gain{Low: -20, High: 20}, api.Pid{Sum: least}},
		{api.Gain{Low: 5, High: 5}, api.Pid{Sum: 4}}, {api.Gain{Low: 5, High: 5}, api.Pid{Sum: 6}}, {api.Gain{}, api.Pid{Sum: 1}}, {api.Gain{}, api.Pid{Sum: -1}},
		{api.Gain{Low: least + 1, High: most}, api.Pid{Sum: least}}, {api.Gain{Low: least, High: most - 1}, api.Pid{Sum: most}},
		{api.Gain{Low: 20, High: -20}, api.Pid{}}, {api.Gain{Low: 20, High: -20}, api.Pid{Sum: 20}}, {api.Gain{Low: 20, High: -20}, api.Pid{Sum: -20}},
		{api.Gain{Low: 20, High: -20}, api.Pid{Sum: 21}}, {api.Gain{Low: 20, High: -20}, api.Pid{Sum: -21}},
		{api.Gain{Low: 1}, api.Pid{}}, {api.Gain{Low: 1}, api.Pid{Sum: 1}}, {api.Gain{High: -1}, api.Pid{}}, {api.Gain{High: -1}, api.Pid{Sum: -1}},
		{api.Gain{Low: most, High: least}, api.Pid{}}, {api.Gain{Low: most, High: least}, api.Pid{Sum: most}}, {api.Gain{Low: most, High: least}, api.Pid{Sum: least}},
	}
	// No gain and no Last makes it better.
	for _, x := range slices.Clone(l) {
		x.g.P, x.g.I, x.g.D, x.s.Last = one, one/2, -one, x.s.Sum
		l = append(l, x)
		x.g.P, x.g.I, x.g.D, x.s.Last = most, least, 1, 7
		l = append(l, x)
	}
	return l
}

// P36.
func TestCheck(t *testing.T) {
	for _, x := range []struct {
		low, sum, high int32
	}{
		{-20, 0, 20}, {-20, -20, 20}, {-20, 20, 20}, {-20, -19, 20}, {-20, 19, 20},
		{0, 0, 0}, {5, 5, 5}, {-5, -5, -5}, {5, 6, 7}, {-7, -6, -5}, {0, 0, 1}, {-1, 0, 0},
		{least, least, most}, {least, most, most}, {least, 0, most}, {least, least, least}, {most, most, most},
	} {
		for _, other := range edges {
			g := api.Gain{P: other, I: other, D: other, Low: x.low, High: x.high}
			if e := Check(g, api.Pid{Sum: x.sum, Last: other}); e != api.OK {
				t.Errorf("Check(%+v, {%d %d}) = %d, want OK", g, x.sum, other, e)
			}
		}
	}
}

// P36.
func TestCheckWrong(t *testing.T) {
	for _, x := range wrong() {
		if e := Check(x.g, x.s); e != api.ErrArg {
			t.Errorf("Check(%+v, %+v) = %d, want ErrArg", x.g, x.s, e)
		}
	}
}

// P36: each edge beside each.
func TestCheckEverywhere(t *testing.T) {
	for _, low := range edges {
		for _, high := range edges {
			for _, sum := range edges {
				want := api.ErrArg
				if low <= sum && sum <= high {
					want = api.OK
				}
				for _, last := range few {
					if e := Check(api.Gain{Low: low, High: high}, api.Pid{Sum: sum, Last: last}); e != want {
						t.Fatalf("Check from %d to %d of {%d %d} = %d, want %d", low, high, sum, last, e, want)
					}
				}
			}
		}
	}
}

// P37: one gain alone, and all of them.
func TestStep(t *testing.T) {
	all := api.Gain{P: one, I: one / 2, D: one, Low: -20, High: 20}
	p := api.Gain{P: 2 * one, Low: -100, High: 100}
	i := api.Gain{I: 2 * one, Low: -100, High: 100}
	d := api.Gain{D: 2 * one, Low: -100, High: 100}
	for _, x := range []struct {
		g    api.Gain
		s    api.Pid
		err  int32
		want api.Pid
		out  int32
	}{
		{all, api.Pid{}, 4, api.Pid{Sum: 2, Last: 4}, 10}, {all, api.Pid{Sum: 2, Last: 4}, 4, api.Pid{Sum: 4, Last: 4}, 8},
		{all, api.Pid{Sum: 4, Last: 4}, 0, api.Pid{Sum: 4}, 0}, {all, api.Pid{}, -4, api.Pid{Sum: -2, Last: -4}, -10},
		{all, api.Pid{}, 0, api.Pid{}, 0}, {all, api.Pid{Sum: 7, Last: 9}, 0, api.Pid{Sum: 7}, -2},
		{p, api.Pid{}, 7, api.Pid{Last: 7}, 14}, {p, api.Pid{Sum: 3, Last: 50}, 7, api.Pid{Sum: 3, Last: 7}, 17}, {p, api.Pid{}, -7, api.Pid{Last: -7}, -14},
		{i, api.Pid{}, 7, api.Pid{Sum: 14, Last: 7}, 14}, {i, api.Pid{Sum: 3, Last: 50}, 7, api.Pid{Sum: 17, Last: 7}, 17}, {i, api.Pid{}, -7, api.Pid{Sum: -14, Last: -7}, -14},
		{d, api.Pid{}, 7, api.Pid{Last: 7}, 14}, {d, api.Pid{Sum: 3, Last: 5}, 7, api.Pid{Sum: 3, Last: 7}, 7}, {d, api.Pid{Sum: 3, Last: 9}, 7, api.Pid{Sum: 3, Last: 7}, -1},
		{d, api.Pid{Sum: 3, Last: 7}, 7, api.Pid{Sum: 3, Last: 7}, 3}, {d, api.Pid{Last: -7}, -9, api.Pid{Last: -9}, -4},
		// No gains: the Sum is told as it is.
		{api.Gain{Low: -5, High: 5}, api.Pid{Sum: 4, Last: 1}, 900, api.Pid{Sum: 4, Last: 900}, 4},
		// Bounds that don't have 0 among them.
		{api.Gain{P: one, Low: 5, High: 9}, api.Pid{Sum: 6}, -3, api.Pid{Sum: 6, Last: -3}, 5}, {api.Gain{I: one, Low: -9, High: -5}, api.Pid{Sum: -6}, 3, api.Pid{Sum: -5, Last: 3}, -5},
		// One number alone.
		{api.Gain{P: one, I: one, D: one, Low: 5, High: 5}, api.Pid{Sum: 5}, 8, api.Pid{Sum: 5, Last: 8}, 5},
		{api.Gain{P: one, I: one, D: one}, api.Pid{}, -8, api.Pid{Last: -8}, 0},
	} {
		mustStep(t, x.g, x.s, x.err, x.want, x.out)
	}
}

// P37: products are rounded as fix.Mul has it, halves up, each by itself.
func TestStepRounds(t *testing.T) {
	for _, x := range []struct {
		gain, err, want int32
	}{
		{one / 2, 1, 1}, {one / 2, -1, 0}, {one / 2, 3, 2}, {one / 2, -3, -1}, {-one / 2, 1, 0}, {-one / 2, -1, 1},
		{one/2 - 1, 1, 0}, {one/2 + 1, -1, -1}, {one / 4, 1, 0}, {one / 4, 3, 1}, {one / 4, -3, -1}, {1, one/2 - 1, 0}, {1, one / 2, 1}, {1, -one / 2, 0},
	} {
		mustStep(t, api.Gain{P: x.gain, Low: -9, High: 9}, api.Pid{}, x.err, api.Pid{Last: x.err}, x.want)
		mustStep(t, api.Gain{I: x.gain, Low: -9, High: 9}, api.Pid{}, x.err, api.Pid{Sum: x.want, Last: x.err}, x.want)
		mustStep(t, api.Gain{D: x.gain, Low: -9, High: 9}, api.Pid{}, x.err, api.Pid{Last: x.err}, x.want)
		mustStep(t, api.Gain{P: x.gain, I: x.gain, D: x.gain, Low: -9, High: 9}, api.Pid{}, x.err, api.Pid{Sum: x.want, Last: x.err}, 3*x.want)
	}
}

// P37: the Sum is clamped ahead of the output, which has the clamped one.
func TestStepClampsTheSum(t *testing.T) {
	g := api.Gain{P: -one, I: one, Low: -20, High: 20}
	mustStep(t, g, api.Pid{Sum: 15}, 9, api.Pid{Sum: 20, Last: 9}, 11)
	mustStep(t, g, api.Pid{Sum: 15}, 5, api.Pid{Sum: 20, Last: 5}, 15)
	mustStep(t, g, api.Pid{Sum: 20}, 9, api.Pid{Sum: 20, Last: 9}, 11)
	mustStep(t, g, api.Pid{Sum: -15}, -9, api.Pid{Sum: -20, Last: -9}, -11)
	mustStep(t, g, api.Pid{Sum: -15}, -5, api.Pid{Sum: -20, Last: -5}, -15)
	mustStep(t, g, api.Pid{Sum: -20}, -9, api.Pid{Sum: -20, Last: -9}, -11)
}

// P37: at its bound the Sum stays; beside it, and where it goes the other way,
// it doesn't.
func TestStepStays(t *testing.T) {
	up := api.Gain{P: one, I: one, Low: -20, High: 20}
	back := api.Gain{P: one, I: -one, Low: -20, High: 20}
	d := api.Gain{I: one, D: one, Low: -20, High: 20}
	for _, x := range []struct {
		g    api.Gain
		s    api.Pid
		err  int32
		want int32
		out  int32
	}{
		// Just at High, and one above it.
		{up, api.Pid{Sum: 10}, 5, 15, 20}, {up, api.Pid{Sum: 11}, 5, 11, 20}, {up, api.Pid{Sum: 9}, 5, 14, 19}, {up, api.Pid{Sum: 20}, 5, 20, 20}, {up, api.Pid{Sum: 19}, 5, 19, 20},
		{up, api.Pid{}, 10, 10, 20}, {up, api.Pid{}, 11, 0, 20}, {up, api.Pid{}, 900, 0, 20}, {up, api.Pid{Sum: -20}, 900, -20, 20},
		// Just at Low, and one below it.
		{up, api.Pid{Sum: -10}, -5, -15, -20}, {up, api.Pid{Sum: -11}, -5, -11, -20}, {up, api.Pid{Sum: -9}, -5, -14, -19}, {up, api.Pid{Sum: -20}, -5, -20, -20}, {up, api.Pid{Sum: -19}, -5, -19, -20},
		{up, api.Pid{}, -10, -10, -20}, {up, api.Pid{}, -11, 0, -20}, {up, api.Pid{}, -900, 0, -20}, {up, api.Pid{Sum: 20}, -900, 20, -20},
		// Above High, but the Sum goes down; below Low, but it goes up.
		{back, api.Pid{Sum: 20}, 1, 19, 20}, {api.Gain{P: 3 * one, I: -one, Low: -20, High: 20}, api.Pid{Sum: 20}, 5, 15, 20}, {api.Gain{P: 3 * one, I: -one, Low: -20, High: 20}, api.Pid{}, 15, -15, 20},
		{back, api.Pid{Sum: -20}, -1, -19, -20}, {api.Gain{P: 3 * one, I: -one, Low: -20, High: 20}, api.Pid{Sum: -20}, -5, -15, -20}, {api.Gain{P: 3 * one, I: -one, Low: -20, High: 20}, api.Pid{}, -15, 15, -20},
		// By D alone.
		{d, api.Pid{Sum: 10, Last: -5}, 2, 12, 19}, {d, api.Pid{Sum: 10, Last: -6}, 2, 12, 20}, {d, api.Pid{Sum: 10, Last: -7}, 2, 10, 20},
		{d, api.Pid{Sum: 10, Last: 32}, 1, 11, -20}, {d, api.Pid{Sum: 10, Last: 33}, 1, 11, -20}, {d, api.Pid{Sum: -10, Last: -33}, -1, -11, 20}, {d, api.Pid{Sum: -10, Last: 7}, -2, -10, -20},
		// Where the old Sum would have kept the output within its bounds, it is
		// still the output with the new one that is told.
		{api.Gain{I: one, P: one, Low: 0, High: 20}, api.Pid{Sum: 8}, 7, 8, 20}, {api.Gain{I: one, P: one, Low: -20}, api.Pid{Sum: -8}, -7, -8, -20},
	} {
		mustStep(t, x.g, x.s, x.err, api.Pid{Sum: x.want, Last: x.err}, x.out)
	}
}

// P37: each product, sum and difference saturates by itself, in the chapter's
// order.
func TestStepSaturates(t *testing.T) {
	whole := func(p, i, d int32) api.Gain { return api.Gain{P: p, I: i, D: d, Low: least, High: most} }
	for _, x := range []struct {
		g    api.Gain
		s    api.Pid
		err  int32
		want api.Pid
		out  int32
	}{
		// I times err.
		{whole(0, most, 0), api.Pid{Sum: -100}, most, api.Pid{Sum: most - 100, Last: most}, most - 100},
		{whole(0, most, 0), api.Pid{Sum: 100}, least, api.Pid{Sum: least + 100, Last: least}, least + 100},
		{whole(0, least, 0), api.Pid{Sum: -1}, least, api.Pid{Sum: most - 1, Last: least}, most - 1},
		// Sum and that.
		{whole(0, one, 0), api.Pid{Sum: most}, most, api.Pid{Sum: most, Last: most}, most}, {whole(0, one, 0), api.Pid{Sum: least}, least, api.Pid{Sum: least, Last: least}, least},
		{whole(0, one, 0), api.Pid{Sum: most - 5}, 9, api.Pid{Sum: most, Last: 9}, most},
		// P times err, ahead of the Sum.
		{whole(2*one, 0, 0), api.Pid{Sum: -7}, most, api.Pid{Sum: -7, Last: most}, most - 7}, {whole(2*one, 0, 0), api.Pid{Sum: 7}, least, api.Pid{Sum: 7, Last: least}, least + 7},
		// P times err and the Sum, ahead of D.
		{whole(one, 0, one), api.Pid{Sum: 10, Last: most}, most - 5, api.Pid{Sum: 10, Last: most - 5}, most - 5},
		{whole(one, 0, one), api.Pid{Sum: -10, Last: least}, least + 5, api.Pid{Sum: -10, Last: least + 5}, least + 5},
		// err less Last, ahead of D times that.
		{whole(0, 0, one/2), api.Pid{Last: least}, most, api.Pid{Last: most}, 1 << 30}, {whole(0, 0, one/2), api.Pid{Last: most}, least, api.Pid{Last: least}, -1 << 30},
		{whole(0, 0, one), api.Pid{Last: least}, 0, api.Pid{}, most}, {whole(0, 0, -one), api.Pid{Last: least}, 0, api.Pid{}, -most},
		// D times that.
		{whole(0, 0, 2*one), api.Pid{Sum: -9}, most, api.Pid{Sum: -9, Last: most}, most - 9}, {whole(0, 0, 2*one), api.Pid{Sum: 9}, least, api.Pid{Sum: 9, Last: least}, least + 9},
		// All of it; at the ends of the type nothing is above or below.
		{whole(one, one, one), api.Pid{}, most, api.Pid{Sum: most, Last: most}, most}, {whole(one, one, one), api.Pid{}, least, api.Pid{Sum: least, Last: least}, least},
		{whole(most, most, most), api.Pid{Sum: 5, Last: least}, most, api.Pid{Sum: most, Last: most}, most},
		// One number nearer the ends are bounds again.
		{api.Gain{P: one, I: one, Low: least + 1, High: most - 1}, api.Pid{}, most, api.Pid{Last: most}, most - 1},
		{api.Gain{P: one, I: one, Low: least + 1, High: most - 1}, api.Pid{}, least, api.Pid{Last: least}, least + 1},
	} {
		mustStep(t, x.g, x.s, x.err, x.want, x.out)
	}
}

// P37: all small ones, beside a second way.
func TestStepOfEverySmallOne(t *testing.T) {
	gains := []int32{-one, -one / 2, 0, one, 2 * one}
	for _, p := range gains {
		for _, i := range gains {
			for _, d := range gains {
				for _, ends := range [][2]int32{{-2, 2}, {-1, 3}, {1, 3}, {-3, -2}, {0, 0}} {
					g := api.Gain{P: p, I: i, D: d, Low: ends[0], High: ends[1]}
					for sum := g.Low; sum <= g.High; sum++ {
						for last := int32(-2); last <= 2; last += 2 {
							for err := int32(-3); err <= 3; err++ {
								mustWork(t, g, api.Pid{Sum: sum, Last: last}, err)
							}
						}
					}
				}
			}
		}
	}
}

// P37: at the edges of each.
func TestStepOfEveryEdge(t *testing.T) {
	for _, gain := range edges {
		for _, last := range few {
			for _, err := range edges {
				for _, ends := range [][3]int32{{least, 0, most}, {least, most, most}, {least, least, most}, {-5, 1, 5}, {-one, 9, one}, {0, 0, most}, {least, -1, -1}} {
					for _, g := range []api.Gain{{P: gain}, {I: gain}, {D: gain}, {P: gain, I: one, D: -one}, {P: gain, I: gain, D: gain}} {
						g.Low, g.High = ends[0], ends[2]
						mustWork(t, g, api.Pid{Sum: ends[1], Last: last}, err)
					}
				}
			}
		}
	}
}

// P37: any; and what is kept passes Check again, what is told is within bounds.
func TestStepEverywhere(t *testing.T) {
	r := rand.New(rand.NewSource(37))
	for range 60000 {
		g, s := someGain(r)
		err := someNumber(r)
		mustWork(t, g, s, err)
		kept, out, _ := Step(g, s, err)
		if Check(g, kept) != api.OK || kept.Last != err {
			t.Fatalf("Step(%+v, %+v, %d) keeps %+v", g, s, err, kept)
		}
		if out < g.Low || out > g.High {
			t.Fatalf("Step(%+v, %+v, %d) tells %d", g, s, err, out)
		}
	}
}

// P37: Check's error, and nothing beside it.
func TestStepWrong(t *testing.T) {
	for _, x := range wrong() {
		for _, err := range edges {
			if got, out, e := Step(x.g, x.s, err); got != (api.Pid{}) || out != 0 || e != api.ErrArg {
				t.Errorf("Step(%+v, %+v, %d) = %+v, %d, %d, want nothing, 0, ErrArg", x.g, x.s, err, got, out, e)
			}
		}
	}
}

// P37.
func TestRun(t *testing.T) {
	all := api.Gain{P: one, I: one / 2, D: one, Low: -20, High: 20}
	up := api.Gain{P: one, I: one, Low: -20, High: 20}
	for _, x := range []struct {
		g    api.Gain
		s    api.Pid
		errs []int32
		want api.Pid
		outs []int32
	}{
		{all, api.Pid{}, []int32{4, 4, 0, 100, 100}, api.Pid{Sum: 4, Last: 100}, []int32{10, 8, 0, 20, 20}},
		{all, api.Pid{}, []int32{-4, -4, 0, -100, -100}, api.Pid{Sum: -4, Last: -100}, []int32{-10, -8, 0, -20, -20}},
		{all, api.Pid{Sum: 2, Last: 4}, []int32{4}, api.Pid{Sum: 4, Last: 4}, []int32{8}},
		// The Sum grows as long as the output has room, and comes back at once.
		{up, api.Pid{}, []int32{5, 5, 5, 5, 5, -5}, api.Pid{Sum: 10, Last: -5}, []int32{10, 15, 20, 20, 20, 5}},
		{up, api.Pid{}, []int32{-5, -5, -5, -5, -5, 5}, api.Pid{Sum: -10, Last: 5}, []int32{-10, -15, -20, -20, -20, -5}},
		// The order counts.
		{up, api.Pid{}, []int32{30, 5}, api.Pid{Sum: 5, Last: 5}, []int32{20, 10}}, {up, api.Pid{}, []int32{5, 30}, api.Pid{Sum: 5, Last: 30}, []int32{10, 20}},
		{api.Gain{D: one, Low: -9, High: 9}, api.Pid{Last: 1}, []int32{1, 3, 2, 2}, api.Pid{Last: 2}, []int32{0, 2, -1, 0}},
	} {
		mustRun(t, x.g, x.s, x.errs, x.want, x.outs)
	}
}

// P37: of no errors what was kept is kept, also at the bounds.
func TestRunOfNone(t *testing.T) {
	g := api.Gain{P: one, I: one, D: one, Low: -20, High: 20}
	for _, errs := range [][]int32{nil, {}, make([]int32, 5)[:0]} {
		for _, s := range []api.Pid{{}, {Sum: 20, Last: 900}, {Sum: -20, Last: least}, {Sum: 3, Last: 4}} {
			mustRun(t, g, s, errs, s, nil)
		}
	}
}

// P37: Run is Step, again and again, and goes on where it was left.
func TestRunIsSteps(t *testing.T) {
	r := rand.New(rand.NewSource(38))
	for range 3000 {
		g, s := someGain(r)
		errs := someNumbers(r, r.Intn(40))
		want, outs := s, make([]int32, len(errs))
		for k, err := range errs {
			want, outs[k] = worked(g, want, err)
		}
		mustRun(t, g, s, errs, want, outs)
		cut := r.Intn(len(errs) + 1)
		half, _, _ := Run(g, s, errs[:cut])
		mustRun(t, g, half, errs[cut:], want, outs[cut:])
	}
}

// P37: no list is too long.
func TestRunLong(t *testing.T) {
	g := api.Gain{I: one, Low: -200000, High: 200000}
	for _, many := range []int{63, 64, 65, 1000, 65537, 100000} {
		errs, want := make([]int32, many), make([]int32, many)
		for k := range errs {
			errs[k], want[k] = 1, int32(k+1)
		}
		mustRun(t, g, api.Pid{}, errs, api.Pid{Sum: int32(many), Last: 1}, want)
	}
}

// P37: Check's error, also of no errors, and nothing beside it.
func TestRunWrong(t *testing.T) {
	for _, x := range wrong() {
		for _, errs := range [][]int32{nil, {}, {0}, {4, 4, 0, 100}, {most, least}, make([]int32, 1000)} {
			if got, outs, e := Run(x.g, x.s, errs); got != (api.Pid{}) || outs != nil || e != api.ErrArg {
				t.Errorf("Run(%+v, %+v, %d errors) = %+v, %v, %d, want nothing, no list, ErrArg", x.g, x.s, len(errs), got, outs, e)
			}
		}
	}
}

// P2: what is handed in stays, the memory behind the list too, and what is told
// again is the same, whatever was asked between.
func TestNothingIsChanged(t *testing.T) {
	r := rand.New(rand.NewSource(2))
	for _, many := range []int{0, 1, 2, 7, 8, 64, 65, 1000} {
		for _, s := range []api.Pid{{}, {Sum: 20, Last: 3}, {Sum: 21}} {
			g := api.Gain{P: one, I: one / 2, D: one, Low: -20, High: 20}
			errs := someNumbers(r, many+8)
			was := slices.Clone(errs)
			kept, outs, e := Run(g, s, errs[:many])
			behind, out, e2 := Step(g, s, 5)
			otherGain, otherPid := someGain(r)
			Run(otherGain, otherPid, someNumbers(r, 9))
			Step(otherGain, otherPid, someNumber(r))
			if !slices.Equal(errs, was) {
				t.Errorf("Run of %d errors changed what was handed in", many)
			}
			if again, l, f := Run(g, s, errs[:many]); again != kept || !slices.Equal(l, outs) || f != e {
				t.Errorf("Run of %d errors told %v, %v, %d and then %v, %v, %d", many, kept, outs, e, again, l, f)
			}
			if again, n, f := Step(g, s, 5); again != behind || n != out || f != e2 {
				t.Errorf("Step told %v, %d, %d and then %v, %d, %d", behind, out, e2, again, n, f)
			}
		}
	}
}

// P2: what is told is new memory, its spare memory too.
func TestNothingIsShared(t *testing.T) {
	g := api.Gain{P: one, Low: -20, High: 20}
	for _, many := range []int{0, 1, 2, 8, 9, 100} {
		errs := make([]int32, many, many+16)
		_, first, _ := Run(g, api.Pid{}, errs)
		_, second, _ := Run(g, api.Pid{}, errs)
		for k := range first[:cap(first)] {
			first[:cap(first)][k] = 7
		}
		for k, n := range errs[:cap(errs)] {
			if n != 0 {
				t.Errorf("of %d errors number %d shares memory with what was told", many, k)
			}
		}
		for k, n := range second {
			if n != 0 {
				t.Errorf("of %d errors output %d shares memory with what was told ahead of it", many, k)
			}
		}
	}
}
