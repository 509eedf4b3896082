package ram

import (
	"math"
	"math/big"
	"math/rand"
	"slices"
	"testing"

	"steadyhand/api"
)

const (
	one   = 65536
	least = math.MinInt32
	most  = math.MaxInt32

	standby  = 0
	active   = 1
	bypassed = 2
	damped   = 3
)

type (
	four  = [4]int32
	modes = [4]int
)

// edges are the numbers at and beside which a type ends, a point stands or a
// sign turns.
var edges = []int32{
	least, least + 1, least / 2, -one - 1, -one, -one + 1, -one / 2, -2, -1,
	0, 1, 2, one / 2, one - 1, one, one + 1, most/2 + 1, most - 1, most,
}

// few of them, where each is tried beside each.
var few = []int32{least, -one, -1, 0, 1, one / 2, most}

// notModes are numbers that are no mode's, some of which have a mode's number in
// their lower bits.
var notModes = []int{
	-1, 4, 5, -2, -3, -4, 7, 8, 9, 64, 255, 256, 257, -255, 65536, 65537, 1 << 31, 1 << 32, 1<<32 + 1, 1<<32 + 3, 1 - 1<<32, -1 << 32, math.MaxInt, math.MinInt, math.MinInt + 1,
}

// notDrags are numbers that are no body's Drag.
var notDrags = []int{
	-1, 9, 10, -2, -8, -9, 16, 31, 32, 64, 255, 256, 260, -252, 65536, 1 << 31, 1 << 32, 1<<32 + 4, 4 - 1<<32, math.MaxInt, math.MinInt, math.MinInt + 4,
}

// nearest to n of what 32 bits hold, from a number without end.
func nearest(n *big.Int) int32 {
	if n.Cmp(big.NewInt(least)) < 0 {
		return least
	}
	if n.Cmp(big.NewInt(most)) > 0 {
		return most
	}
	return int32(n.Int64())
}

func wide(n int32) *big.Int { return big.NewInt(int64(n)) }

func plus(a, b int32) int32 { return nearest(new(big.Int).Add(wide(a), wide(b))) }

func less(a, b int32) int32 { return nearest(new(big.Int).Sub(wide(a), wide(b))) }

// times rounds to the nearest, halves up: twice the product, and one half more,
// rounded down.
func times(a, b int32) int32 {
	twice := new(big.Int).Mul(wide(a), wide(b))
	twice.Lsh(twice, 1)
	twice.Add(twice, big.NewInt(one))
	return nearest(twice.Div(twice, big.NewInt(2*one)))
}

// halved again and again, each time rounded down, which comes to the same as
// rounding down once.
func halved(n int32, many int) int32 {
	for range many {
		half := n / 2
		if n < 0 && n%2 != 0 {
			half--
		}
		n = half
	}
	return n
}

func between(n, low, high int32) int32 {
	three := []int32{n, low, high}
	slices.Sort(three)
	return three[1]
}

// those are the lanes that are in this mode, rising.
func those(m modes, mode int) []int {
	var l []int
	for k := range 4 {
		if m[k] == mode {
			l = append(l, k)
		}
	}
	return l
}

// workedPush goes word by word through the promise.
func workedPush(valves four, m modes, oil four) four {
	var push four
	for _, k := range those(m, active) {
		if oil[k] > 0 {
			push[k] = times(valves[k], oil[k])
		}
	}
	return push
}

// workedFight goes word by word through the promise.
func workedFight(push four, m modes) four {
	var fight four
	lanes := those(m, active)
	sum := new(big.Int)
	for _, k := range lanes {
		sum.Add(sum, wide(push[k]))
	}
	for _, k := range lanes {
		each := new(big.Int).Quo(wide(nearest(sum)), big.NewInt(int64(len(lanes))))
		fight[k] = nearest(new(big.Int).Sub(wide(push[k]), each))
	}
	return fight
}

// workedStep goes word by word through the promise, of what Check lets through.
func workedStep(b api.Body, r api.Ram, push four, m modes, load int32) api.Ram {
	force := less(0, load)
	for _, k := range those(m, active) {
		force = plus(force, push[k])
	}
	way := halved(times(b.Gain, force), b.Drag+len(those(m, damped)))
	pos := between(plus(r.Pos, way), b.Low, b.High)
	return api.Ram{Pos: pos, Vel: less(pos, r.Pos)}
}

func mustPush(t *testing.T, valves four, m modes, oil, want four) {
	t.Helper()
	if got, e := Push(valves, m, oil); got != want || e != api.OK {
		t.Fatalf("Push(%v, %v, %v) = %v, %d, want %v, OK", valves, m, oil, got, e, want)
	}
}

func mustFight(t *testing.T, push four, m modes, want four) {
	t.Helper()
	if got, e := Fight(push, m); got != want || e != api.OK {
		t.Fatalf("Fight(%v, %v) = %v, %d, want %v, OK", push, m, got, e, want)
	}
}

func mustStep(t *testing.T, b api.Body, r api.Ram, push four, m modes, load int32, want api.Ram) {
	t.Helper()
	if got, e := Step(b, r, push, m, load); got != want || e != api.OK {
		t.Fatalf("Step(%+v, %+v, %v, %v, %d) = %+v, %d, want %+v, OK", b, r, push, m, load, got, e, want)
	}
}

func mustWork(t *testing.T, b api.Body, r api.Ram, push four, m modes, load int32) {
	t.Helper()
	mustStep(t, b, r, push, m, load, workedStep(b, r, push, m, load))
}

// allModes there are of four lanes.
func allModes() []modes {
	var l []modes
	for n := range 256 {
		l = append(l, modes{n & 3, n >> 2 & 3, n >> 4 & 3, n >> 6})
	}
	return l
}

// wrongModes have one that is none of the four at each place, and at all.
func wrongModes() []modes {
	var l []modes
	for _, n := range notModes {
		for k := range 4 {
			for _, rest := range []int{standby, active, bypassed, damped} {
				m := modes{rest, rest, rest, rest}
				m[k] = n
				l = append(l, m)
			}
		}
		l = append(l, modes{n, n, n, n})
	}
	return l
}

// someNumber is near to 0, an edge, or of any length.
func someNumber(r *rand.Rand) int32 {
	switch r.Intn(3) {
	case 0:
		return int32(r.Intn(41) - 20)
	case 1:
		return edges[r.Intn(len(edges))]
	default:
		return int32(r.Uint32()) >> r.Intn(32)
	}
}

func someFour(r *rand.Rand) four {
	return four{someNumber(r), someNumber(r), someNumber(r), someNumber(r)}
}

func someModes(r *rand.Rand) modes {
	return modes{r.Intn(4), r.Intn(4), r.Intn(4), r.Intn(4)}
}

// someBody with a ram that Check lets through.
func someBody(r *rand.Rand) (api.Body, api.Ram) {
	three := []int32{someNumber(r), someNumber(r), someNumber(r)}
	slices.Sort(three)
	gain := someNumber(r) & most
	return api.Body{Gain: gain, Drag: r.Intn(9), Low: three[0], High: three[2]}, api.Ram{Pos: three[1], Vel: someNumber(r)}
}

type pair struct {
	b api.Body
	r api.Ram
}

// wrong are pairs of which Check tells ErrArg: a Pos outside of the ends, ends
// that stand the other way, whatever the Pos, a wrong Gain, a wrong Drag.
func wrong() []pair {
	var l []pair
	for _, x := range [][3]int32{
		{1, 0, 2}, {-2, 0, -1}, {-9, 10, 9}, {-9, -10, 9}, {-9, most, 9}, {-9, least, 9}, {5, 4, 5}, {5, 6, 5}, {0, 1, 0}, {0, -1, 0},
		{least + 1, least, most}, {least, most, most - 1}, {9, 0, -9}, {9, 9, -9}, {9, -9, -9}, {9, 10, -9}, {9, -10, -9},
		{1, 0, 0}, {1, 1, 0}, {0, 0, -1}, {0, -1, -1}, {most, 0, least}, {most, most, least}, {most, least, least},
	} {
		for _, gain := range []int32{0, one, most} {
			for _, drag := range []int{0, 3, 8} {
				l = append(l, pair{api.Body{Gain: gain, Drag: drag, Low: x[0], High: x[2]}, api.Ram{Pos: x[1]}})
			}
		}
	}
	for _, gain := range []int32{-1, -2, -one, least, least + 1} {
		for drag := range 9 {
			l = append(l, pair{api.Body{Gain: gain, Drag: drag, Low: -9, High: 9}, api.Ram{Pos: 1}})
		}
	}
	for _, drag := range notDrags {
		for _, gain := range []int32{0, 1, one, most} {
			l = append(l, pair{api.Body{Gain: gain, Drag: drag, Low: -9, High: 9}, api.Ram{Pos: 1}})
		}
	}
	// Nor is it better with more that is wrong.
	l = append(l, pair{api.Body{Gain: -1, Drag: -1, Low: 1, High: -1}, api.Ram{}}, pair{api.Body{Gain: -1, Drag: 9, Low: -9, High: 9}, api.Ram{}})
	// No Vel makes it better.
	for _, x := range slices.Clone(l) {
		for _, vel := range []int32{1, -1, x.r.Pos, most, least} {
			x.r.Vel = vel
			l = append(l, x)
		}
	}
	return l
}

// P38: each Drag, Gains from 0 on, a Pos at each end and between; any Vel.
func TestCheck(t *testing.T) {
	for _, x := range [][3]int32{
		{-9, 0, 9}, {-9, -9, 9}, {-9, 9, 9}, {-9, -8, 9}, {-9, 8, 9}, {0, 0, 0}, {5, 5, 5}, {-5, -5, -5}, {5, 6, 7}, {-7, -6, -5}, {0, 0, 1}, {-1, 0, 0},
		{least, least, most}, {least, most, most}, {least, 0, most}, {least, least, least}, {most, most, most},
	} {
		for _, gain := range []int32{0, 1, 2, one - 1, one, one + 1, most - 1, most} {
			for drag := range 9 {
				for _, vel := range edges {
					b := api.Body{Gain: gain, Drag: drag, Low: x[0], High: x[2]}
					if e := Check(b, api.Ram{Pos: x[1], Vel: vel}); e != api.OK {
						t.Fatalf("Check(%+v, {%d %d}) = %d, want OK", b, x[1], vel, e)
					}
				}
			}
		}
	}
	if e := Check(api.Body{}, api.Ram{}); e != api.OK {
		t.Errorf("Check of nothing = %d, want OK", e)
	}
}

// P38.
func TestCheckWrong(t *testing.T) {
	for _, x := range wrong() {
		if e := Check(x.b, x.r); e != api.ErrArg {
			t.Errorf("Check(%+v, %+v) = %d, want ErrArg", x.b, x.r, e)
		}
	}
}

// P38: each edge beside each.
func TestCheckEverywhere(t *testing.T) {
	for _, low := range edges {
		for _, high := range edges {
			for _, pos := range edges {
				for _, gain := range edges {
					for _, drag := range []int{-1, 0, 1, 8, 9} {
						want := api.ErrArg
						if low <= pos && pos <= high && gain >= 0 && drag >= 0 && drag <= 8 {
							want = api.OK
						}
						b := api.Body{Gain: gain, Drag: drag, Low: low, High: high}
						if e := Check(b, api.Ram{Pos: pos, Vel: gain}); e != want {
							t.Fatalf("Check(%+v, {%d %d}) = %d, want %d", b, pos, gain, e, want)
						}
					}
				}
			}
		}
	}
}

// P39.
func TestPush(t *testing.T) {
	all := modes{active, active, active, active}
	for _, x := range []struct {
		valves four
		m      modes
		oil    four
		want   four
	}{
		{four{6, 2, 9, 9}, modes{active, active, standby, damped}, four{one, 2 * one, one, one}, four{6, 4}},
		{four{6, 2, 9, 9}, modes{damped, bypassed, active, standby}, four{one, one, one / 3, one}, four{2: 3}},
		{four{6, 2, 9, 9}, modes{standby, bypassed, damped, active}, four{one, one, one, one}, four{3: 9}},
		{four{6, 2, 9, 9}, modes{}, four{one, one, one, one}, four{}},
		{four{6, 2, 9, 9}, modes{bypassed, bypassed, bypassed, bypassed}, four{one, one, one, one}, four{}},
		{four{6, 2, 9, 9}, modes{damped, damped, damped, damped}, four{one, one, one, one}, four{}},
		{four{6, -2, 9, -8}, all, four{one, one, one, one}, four{6, -2, 9, -8}},
		// A valve may be open the other way; oil below 0 is none.
		{four{-6, -6, 6, 6}, all, four{one, -one, one, -one}, four{-6, 0, 6, 0}},
		{four{-6, -6, 6, 6}, all, four{2 * one, 0, 2 * one, 0}, four{-12, 0, 12, 0}},
		{four{one, -one, one, -one}, all, four{-1, -1, 1, 1}, four{0, 0, 1, -1}},
		{four{least, least, most, most}, all, four{-1, least, -1, least}, four{}},
		// To the nearest, halves up.
		{four{1, -1, 3, -3}, all, four{one / 2, one / 2, one / 2, one / 2}, four{1, 0, 2, -1}},
		{four{1, -1, 1, -1}, all, four{one/2 - 1, one/2 - 1, one/2 + 1, one/2 + 1}, four{0, 0, 1, -1}},
		// Saturated.
		{four{most, least, most, least}, all, four{2 * one, 2 * one, most, most}, four{most, least, most, least}},
		{four{most, least, most, least}, all, four{one, one, one + 1, one + 1}, four{most, least, most, least}},
		{four{most, least, most, least}, all, four{one - 1, one - 1, 1, 1}, four{most - 32768, least + 32768, 32768, -32768}},
	} {
		mustPush(t, x.valves, x.m, x.oil, x.want)
	}
}

// P39: each lane by itself, whatever the others are, at each edge of each.
func TestPushOfEveryEdge(t *testing.T) {
	for _, valve := range edges {
		for _, oil := range edges {
			for k := range 4 {
				for _, rest := range []int{standby, active, bypassed, damped} {
					for mode := range 4 {
						m := modes{rest, rest, rest, rest}
						m[k] = mode
						valves, oils := four{7, -7, 9, -9}, four{one, 2 * one, 3 * one, 4 * one}
						valves[k], oils[k] = valve, oil
						mustPush(t, valves, m, oils, workedPush(valves, m, oils))
					}
				}
			}
		}
	}
}

// P39: any, in each of the modes.
func TestPushEverywhere(t *testing.T) {
	r := rand.New(rand.NewSource(39))
	for _, m := range allModes() {
		for range 200 {
			valves, oil := someFour(r), someFour(r)
			mustPush(t, valves, m, oil, workedPush(valves, m, oil))
		}
	}
}

// P39: nothing beside the error.
func TestPushWrong(t *testing.T) {
	for _, m := range wrongModes() {
		for _, x := range [][2]four{{}, {{6, 2, 9, 9}, {one, one, one, one}}, {{most, least, most, least}, {most, most, -1, -1}}} {
			if got, e := Push(x[0], m, x[1]); got != (four{}) || e != api.ErrArg {
				t.Errorf("Push(%v, %v, %v) = %v, %d, want nothing, ErrArg", x[0], m, x[1], got, e)
			}
		}
	}
}

// P39.
func TestFight(t *testing.T) {
	all := modes{active, active, active, active}
	two := modes{active, standby, damped, active}
	three := modes{active, active, bypassed, active}
	for _, x := range []struct {
		push four
		m    modes
		want four
	}{
		{four{6, 1}, modes{active, active, standby, damped}, four{3, -2}},
		{four{4, 4, 4, 4}, all, four{}}, {four{-4, -4, -4, -4}, all, four{}}, {four{}, all, four{}},
		{four{8, 4, 2, 2}, all, four{4, 0, -2, -2}}, {four{-8, -4, -2, -2}, all, four{-4, 0, 2, 2}},
		// Of those that are not Active nothing counts, nor are they counted.
		{four{8, 900, -900, 4}, two, four{2, 0, 0, -2}}, {four{9, 3, 900, 3}, three, four{4, -2, 0, -2}},
		{four{most, least, least, 4}, modes{standby, bypassed, damped, active}, four{}},
		{four{5, 6, 7, 8}, modes{}, four{}}, {four{5, 6, 7, 8}, modes{bypassed, bypassed, bypassed, bypassed}, four{}}, {four{5, 6, 7, 8}, modes{damped, damped, damped, damped}, four{}},
		{four{5, 6, 7, 8}, modes{standby, bypassed, damped, standby}, four{}},
		// One alone fights nobody.
		{four{5}, modes{active}, four{}}, {four{most}, modes{active}, four{}}, {four{least}, modes{active}, four{}}, {four{3: -7}, modes{3: active}, four{}},
		// Rounded toward 0.
		{four{1, 0, 0, 0}, two, four{1}}, {four{-1, 0, 0, 0}, two, four{-1}}, {four{3, 0, 0, 0}, two, four{2, 0, 0, -1}}, {four{-3, 0, 0, 0}, two, four{-2, 0, 0, 1}},
		{four{2, 0, 0, 0}, three, four{2}}, {four{-2, 0, 0, 0}, three, four{-2}}, {four{5, 0, 0, 0}, three, four{4, -1, 0, -1}}, {four{-5, 0, 0, 0}, three, four{-4, 1, 0, 1}},
		{four{3, 0, 0, 0}, all, four{3}}, {four{-3, 0, 0, 0}, all, four{-3}}, {four{7, 0, 0, 0}, all, four{6, -1, -1, -1}}, {four{-7, 0, 0, 0}, all, four{-6, 1, 1, 1}},
	} {
		mustFight(t, x.push, x.m, x.want)
	}
}

// P39: the sum is the one of package sat, saturated once and not as it goes; so
// is the difference.
func TestFightSaturates(t *testing.T) {
	all := modes{active, active, active, active}
	two := modes{active, standby, damped, active}
	three := modes{active, active, bypassed, active}
	const half, third, quarter = most / 2, most / 3, most / 4
	for _, x := range []struct {
		push four
		m    modes
		want four
	}{
		{four{most, 0, 0, most}, two, four{most - half, 0, 0, most - half}}, {four{least, 0, 0, least}, two, four{least / 2, 0, 0, least / 2}},
		{four{most, 0, 0, 1}, two, four{most - half, 0, 0, 1 - half}}, {four{most, 0, 0, 0}, two, four{most - half, 0, 0, -half}},
		{four{most, 0, 0, least}, two, four{most, 0, 0, least}}, {four{least, 0, 0, most}, two, four{least, 0, 0, most}},
		{four{most, most, most, most}, all, four{most - quarter, most - quarter, most - quarter, most - quarter}},
		// What one takes too far another brings back, in whatever order.
		{four{most, most, 0, least}, three, four{most - (most-1)/3, most - (most-1)/3, 0, least}}, {four{least, most, 0, most}, three, four{least, most - (most-1)/3, 0, most - (most-1)/3}},
		{four{most, most, least, least}, all, four{most, most, least, least}}, {four{least, least, most, most}, all, four{least, least, most, most}}, {four{most, least, most, least}, all, four{most, least, most, least}},
		// The difference.
		{four{most, least, 0, least}, three, four{most, least - least/3, 0, least - least/3}}, {four{least, most, 0, most}, three, four{least, most - (most-1)/3, 0, most - (most-1)/3}},
		{four{least, most, most, most}, all, four{least, most - quarter, most - quarter, most - quarter}}, {four{most, least, least, least}, all, four{most, least - least/4, least - least/4, least - least/4}},
		{four{most, -third, 0, least}, three, four{most, -third + 238609294, 0, least + 238609294}},
	} {
		mustFight(t, x.push, x.m, x.want)
	}
}

// P39: all small ones, in each of the modes.
func TestFightOfEverySmallOne(t *testing.T) {
	for _, m := range allModes() {
		for n := range 5 * 5 * 5 * 5 {
			push := four{int32(n%5 - 2), int32(n/5%5 - 2), int32(n/25%5 - 2), int32(n/125 - 2)}
			mustFight(t, push, m, workedFight(push, m))
		}
	}
}

// P39: edges one beside the other, and any.
func TestFightEverywhere(t *testing.T) {
	r := rand.New(rand.NewSource(40))
	for _, m := range allModes() {
		for _, a := range few {
			for _, b := range few {
				for _, push := range []four{{a, b, a, b}, {a, b, b, a}, {a, a, b, b}, {a, b, b, b}, {b, b, b, a}} {
					mustFight(t, push, m, workedFight(push, m))
				}
			}
		}
		for range 200 {
			push := someFour(r)
			mustFight(t, push, m, workedFight(push, m))
		}
	}
}

// P39: nothing beside the error.
func TestFightWrong(t *testing.T) {
	for _, m := range wrongModes() {
		for _, push := range []four{{}, {6, 1, 2, 3}, {most, least, most, least}} {
			if got, e := Fight(push, m); got != (four{}) || e != api.ErrArg {
				t.Errorf("Fight(%v, %v) = %v, %d, want nothing, ErrArg", push, m, got, e)
			}
		}
	}
}

// P40.
func TestStep(t *testing.T) {
	b := api.Body{Gain: one, Low: -9, High: 9}
	far := api.Body{Gain: one, Low: -1000, High: 1000}
	twice := api.Body{Gain: 2 * one, Low: -1000, High: 1000}
	half := api.Body{Gain: one / 2, Low: -1000, High: 1000}
	mixed := modes{active, active, standby, damped}
	for _, x := range []struct {
		b    api.Body
		pos  int32
		push four
		m    modes
		load int32
		want int32
	}{
		{b, 1, four{6, 4}, mixed, 1, 5}, {b, 8, four{6, 4}, mixed, 0, 9}, {b, 0, four{4}, modes{active}, 1, 3},
		// At the ends, and one beside them.
		{b, 9, four{1}, modes{active}, 0, 9}, {b, 8, four{1}, modes{active}, 0, 9}, {b, 7, four{1}, modes{active}, 0, 8}, {b, 8, four{2}, modes{active}, 0, 9},
		{b, -9, four{-1}, modes{active}, 0, -9}, {b, -8, four{-1}, modes{active}, 0, -9}, {b, -7, four{-1}, modes{active}, 0, -8}, {b, -8, four{-2}, modes{active}, 0, -9},
		{b, 9, four{-18}, modes{active}, 0, -9}, {b, -9, four{18}, modes{active}, 0, 9}, {b, 9, four{-19}, modes{active}, 0, -9}, {b, -9, four{19}, modes{active}, 0, 9},
		// The load pushes back, also alone.
		{far, 5, four{}, modes{}, 3, 2}, {far, 5, four{}, modes{}, -3, 8}, {far, 5, four{3}, modes{active}, 3, 5}, {far, 5, four{}, modes{}, 0, 5},
		// Those that are not Active don't push.
		{far, 0, four{1, 10, 100, 500}, modes{active, active, active, active}, 0, 611}, {far, 0, four{1, 10, 100, 500}, modes{standby, active, standby, active}, 0, 510},
		{far, 0, four{1, 10, 100, 500}, modes{active, bypassed, active, bypassed}, 0, 101}, {far, 0, four{1, 10, 100, 500}, modes{}, 0, 0},
		{far, 0, four{1, 10, 100, 500}, modes{damped, damped, damped, damped}, 0, 0}, {far, 0, four{1, 10, 100, 500}, modes{bypassed, bypassed, bypassed, bypassed}, 0, 0},
		// Gains.
		{twice, 0, four{4}, modes{active}, 1, 6}, {half, 0, four{4}, modes{active}, 0, 2}, {half, 0, four{3}, modes{active}, 0, 2}, {half, 0, four{-3}, modes{active}, 0, -1},
		{api.Body{Low: -9, High: 9}, 3, four{most}, modes{active}, least, 3},
		// Only Damped lanes drag.
		{far, 0, four{0, 0, 0, 160}, modes{standby, bypassed, standby, active}, 0, 160}, {far, 0, four{0, 0, 0, 160}, modes{damped, bypassed, standby, active}, 0, 80},
		{far, 0, four{0, 0, 0, 160}, modes{damped, damped, standby, active}, 0, 40}, {far, 0, four{0, 0, 0, 160}, modes{damped, damped, damped, active}, 0, 20},
		{far, 0, four{}, modes{damped, damped, damped, damped}, -160, 10}, {far, 0, four{}, modes{damped, damped, damped, damped}, 160, -10},
		// Rounded down.
		{far, 0, four{7}, modes{active, damped}, 0, 3}, {far, 0, four{-7}, modes{active, damped}, 0, -4}, {far, 0, four{1}, modes{active, damped}, 0, 0}, {far, 0, four{-1}, modes{active, damped}, 0, -1},
		{far, 0, four{-1}, modes{active, damped, damped, damped}, 0, -1}, {far, 0, four{15}, modes{active, damped, damped, damped}, 0, 1},
		// A way that has no length.
		{api.Body{Gain: one, Low: 5, High: 5}, 5, four{most}, modes{active}, 0, 5}, {api.Body{Gain: one, Low: 5, High: 5}, 5, four{least}, modes{active}, 0, 5},
	} {
		for _, vel := range few {
			mustStep(t, x.b, api.Ram{Pos: x.pos, Vel: vel}, x.push, x.m, x.load, api.Ram{Pos: x.want, Vel: x.want - x.pos})
		}
	}
}

// P40: each Drag, with each number of Damped lanes, halves the way once more.
func TestStepDrags(t *testing.T) {
	for drag := range 9 {
		for many := range 5 {
			var m modes
			for k := range many {
				m[k] = damped
			}
			b := api.Body{Gain: one, Drag: drag, Low: -10000, High: 10000}
			for load, want := range map[int32]int32{-4096: 4096, 4096: -4096} {
				way := want / (1 << (drag + many))
				mustStep(t, b, api.Ram{Pos: 100}, four{}, m, load, api.Ram{Pos: 100 + way, Vel: way})
			}
			mustStep(t, b, api.Ram{Pos: 100}, four{}, m, 1, api.Ram{Pos: 99, Vel: -1})
		}
	}
}

// P40: each sum and product saturates by itself, in the chapter's order.
func TestStepSaturates(t *testing.T) {
	all := modes{active, active, active, active}
	whole := api.Body{Gain: one, Low: least, High: most}
	twice := api.Body{Gain: 2 * one, Low: least, High: most}
	half := api.Body{Gain: one / 2, Low: least, High: most}
	for _, x := range []struct {
		b    api.Body
		pos  int32
		push four
		m    modes
		load int32
		want int32
	}{
		// The load with its sign turned.
		{whole, 0, four{}, modes{}, least, most}, {whole, 0, four{}, modes{}, most, -most}, {whole, 0, four{-5}, all, least, most - 5}, {whole, 0, four{5}, all, most, -most + 5},
		{half, 0, four{}, modes{}, least, 1 << 30},
		// The load first, and then lane by lane.
		{whole, 0, four{most, least}, all, -5, -1}, {whole, 0, four{least, most}, all, -5, 4}, {whole, 0, four{most, -7}, all, -5, most - 7}, {whole, 0, four{-7, most}, all, -5, most - 2},
		{whole, 0, four{most, most, -7}, all, 0, most - 7}, {whole, 0, four{most, -7, most}, all, 0, most}, {whole, 0, four{-7, 9, most}, all, 0, most}, {whole, 0, four{-7, 0, 9, most}, all, 0, most},
		{whole, 0, four{most, 9, 0, -7}, all, 0, most - 7}, {whole, 0, four{most, 0, -7, 9}, all, 0, most}, {whole, 0, four{9, most, -7}, modes{standby, active, active}, 0, most - 7},
		{whole, 0, four{least, -9, 0, 7}, all, 0, least + 7}, {whole, 0, four{least, 7, -9, 0}, all, 0, least}, {whole, 0, four{least, least}, all, least, -1 - most},
		{whole, 0, four{most, most, least, least}, all, 0, least}, {whole, 0, four{least, least, most, most}, all, 0, most - 1},
		// A load behind the pushes would bring these back.
		{whole, 0, four{9, most}, all, 9, most}, {whole, 0, four{most, 9}, all, 9, most}, {whole, 0, four{most, most}, all, 9, most},
		// Gain times the force, ahead of the shift.
		{twice, 0, four{most}, modes{active, damped}, 0, most / 2}, {twice, 0, four{least}, modes{active, damped}, 0, least / 2}, {api.Body{Gain: most, Drag: 8, Low: least, High: most}, 0, four{most}, modes{active, damped, damped, damped}, 0, most >> 11},
		{api.Body{Gain: most, Drag: 8, Low: least, High: most}, 0, four{}, modes{damped, damped, damped, damped}, most, -1 << 19}, {api.Body{Gain: most, Low: least, High: most}, 0, four{1}, all, 0, 32768},
		// Rounded by the product, and then down by the shift.
		{api.Body{Gain: one / 2, Drag: 1, Low: least, High: most}, 0, four{3}, all, 0, 1}, {api.Body{Gain: one / 2, Drag: 1, Low: least, High: most}, 0, four{-3}, all, 0, -1}, {api.Body{Gain: one / 2, Drag: 1, Low: least, High: most}, 0, four{-1}, all, 0, 0},
		// Pos and the way.
		{whole, 5, four{most}, all, 0, most}, {whole, -5, four{least}, all, 0, least}, {whole, most, four{1}, all, 0, most}, {whole, least, four{-1}, all, 0, least},
		{whole, least, four{most}, all, 0, -1}, {whole, most, four{least}, all, 0, -1}, {whole, 0, four{least}, all, 0, least},
		// One number nearer the ends are ends again.
		{api.Body{Gain: one, Low: least + 1, High: most - 1}, 0, four{most}, all, 0, most - 1}, {api.Body{Gain: one, Low: least + 1, High: most - 1}, 0, four{least}, all, 0, least + 1},
	} {
		mustStep(t, x.b, api.Ram{Pos: x.pos}, x.push, x.m, x.load, api.Ram{Pos: x.want, Vel: x.want - x.pos})
	}
}

// P40: small ones, in each of the modes.
func TestStepOfEverySmallOne(t *testing.T) {
	for _, m := range allModes() {
		for _, gain := range []int32{0, one / 2, one, 3 * one} {
			for _, drag := range []int{0, 1, 8} {
				b := api.Body{Gain: gain, Drag: drag, Low: -3, High: 5}
				for pos := b.Low; pos <= b.High; pos++ {
					for load := int32(-3); load <= 3; load++ {
						mustWork(t, b, api.Ram{Pos: pos}, four{3, -2, 5, -7}, m, load)
						mustWork(t, b, api.Ram{Pos: pos}, four{-9, 1, 0, 4}, m, load)
					}
				}
			}
		}
	}
}

// P40: at the edges of each.
func TestStepOfEveryEdge(t *testing.T) {
	ends := [][3]int32{{least, 0, most}, {least, most, most}, {least, least, most}, {-5, 1, 5}, {-one, 9, one}, {0, 0, most}, {least, -1, -1}}
	for _, gain := range edges {
		if gain < 0 {
			continue
		}
		for _, drag := range []int{0, 1, 7, 8} {
			for _, load := range edges {
				for _, push := range few {
					for _, x := range ends {
						b := api.Body{Gain: gain, Drag: drag, Low: x[0], High: x[2]}
						mustWork(t, b, api.Ram{Pos: x[1]}, four{push, load, push, 1}, modes{active, active, active, damped}, load)
						mustWork(t, b, api.Ram{Pos: x[1]}, four{1, push, -1, push}, modes{standby, active, damped, active}, load)
						mustWork(t, b, api.Ram{Pos: x[1]}, four{push, push, push, push}, modes{damped, damped, damped, damped}, load)
					}
				}
			}
		}
	}
}

// P40: any; and where it is then passes Check again, and Vel is how far it came.
func TestStepEverywhere(t *testing.T) {
	r := rand.New(rand.NewSource(41))
	for range 80000 {
		b, ram := someBody(r)
		push, m, load := someFour(r), someModes(r), someNumber(r)
		mustWork(t, b, ram, push, m, load)
		got, _ := Step(b, ram, push, m, load)
		if Check(b, got) != api.OK {
			t.Fatalf("Step(%+v, %+v, %v, %v, %d) comes to %+v", b, ram, push, m, load, got)
		}
		if int64(ram.Pos)+int64(got.Vel) != int64(got.Pos) {
			t.Fatalf("Step(%+v, %+v, %v, %v, %d) comes to %+v", b, ram, push, m, load, got)
		}
	}
}

// P40: Check's error, and nothing beside it.
func TestStepWrong(t *testing.T) {
	for _, x := range wrong() {
		for _, m := range []modes{{}, {active, active, standby, damped}, {4}, {3: -1}} {
			for _, load := range few {
				if got, e := Step(x.b, x.r, four{6, 4, 2, 1}, m, load); got != (api.Ram{}) || e != api.ErrArg {
					t.Fatalf("Step(%+v, %+v, .., %v, %d) = %+v, %d, want nothing, ErrArg", x.b, x.r, m, load, got, e)
				}
			}
		}
	}
}

// P40: nothing beside the error.
func TestStepOfWrongModes(t *testing.T) {
	b := api.Body{Gain: one, Low: -9, High: 9}
	for _, m := range wrongModes() {
		for _, push := range []four{{}, {6, 4, 2, 1}, {most, least, most, least}} {
			for _, load := range few {
				if got, e := Step(b, api.Ram{Pos: 1, Vel: 2}, push, m, load); got != (api.Ram{}) || e != api.ErrArg {
					t.Fatalf("Step of %v, %v, %d = %+v, %d, want nothing, ErrArg", push, m, load, got, e)
				}
			}
		}
	}
}

// P2: what is told again is the same, whatever was asked between.
func TestNothingIsKept(t *testing.T) {
	r := rand.New(rand.NewSource(2))
	for range 2000 {
		b, ram := someBody(r)
		valves, oil, m, load := someFour(r), someFour(r), someModes(r), someNumber(r)
		push, e1 := Push(valves, m, oil)
		fight, e2 := Fight(push, m)
		got, e3 := Step(b, ram, push, m, load)
		Step(b, got, someFour(r), someModes(r), someNumber(r))
		Push(someFour(r), someModes(r), someFour(r))
		Fight(someFour(r), modes{-1})
		if again, e := Push(valves, m, oil); again != push || e != e1 {
			t.Fatalf("Push told %v, %d and then %v, %d", push, e1, again, e)
		}
		if again, e := Fight(push, m); again != fight || e != e2 {
			t.Fatalf("Fight told %v, %d and then %v, %d", fight, e2, again, e)
		}
		if again, e := Step(b, ram, push, m, load); again != got || e != e3 {
			t.Fatalf("Step told %v, %d and then %v, %d", got, e3, again, e)
		}
	}
}
