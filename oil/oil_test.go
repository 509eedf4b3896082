package oil

import (
	"math"
	"math/rand"
	"slices"
	"testing"

	"steadyhand/api"
)

// The four ways in which two systems may be on.
var everyOn = [][2]bool{{false, false}, {false, true}, {true, false}, {true, true}}

// someBounds are right ones: low, and high.
var someBounds = [][2]int32{
	{0, 0}, {0, 1}, {1, 1}, {5, 5}, {5, 6}, {5, 8}, {0, 1000}, {999, 1000}, {65535, 65536},
	{0, math.MaxInt32}, {1, math.MaxInt32}, {math.MaxInt32 - 1, math.MaxInt32}, {math.MaxInt32, math.MaxInt32},
}

// wrongBounds are below 0, or stand the wrong way, or both: low, and high.
var wrongBounds = [][2]int32{
	{-1, 0}, {-1, -1}, {-1, 5}, {-2, -1}, {-1, -2}, {-5, -8}, {-8, -5}, {0, -1}, {1, 0}, {5, 3}, {6, 5}, {1, -1}, {5, -5},
	{-1, math.MaxInt32}, {math.MaxInt32, math.MaxInt32 - 1}, {math.MaxInt32, 0}, {math.MaxInt32, -1},
	{math.MinInt32, 0}, {math.MinInt32, math.MaxInt32}, {math.MinInt32, math.MinInt32},
	{math.MinInt32 + 1, math.MinInt32}, {0, math.MinInt32}, {math.MaxInt32, math.MinInt32},
}

// notLanes are beyond the four, some of which are within them in their lower bits.
var notLanes = []int{-1, -2, -3, -4, 4, 5, 6, 7, 8, 256, 257, 65536, 1 << 32, 1<<32 + 1, 1<<32 + 3, 1 - 1<<32, math.MaxInt, math.MaxInt - 1, math.MinInt, math.MinInt + 1}

// none is what Source is taken to tell of a lane that has no source.
const none = -1

// sources are those of the four lanes, by which systems are on.
var sources = map[[2]bool][4]int{
	{false, false}: {none, none, none, none},
	{true, false}:  {0, 0, none, 0},
	{false, true}:  {none, 1, 1, 1},
	{true, true}:   {0, 0, 1, 1},
}

// near are pressures at the bounds and beside them, at 0, and at both ends of the
// type.
func near(low, high int32) []int32 {
	l := []int32{-1, 0, 1, math.MinInt32, math.MaxInt32}
	for _, x := range []int32{low, high} {
		for by := int64(-1); by <= 1; by++ {
			if n := int64(x) + by; n >= math.MinInt32 && n <= math.MaxInt32 {
				l = append(l, int32(n))
			}
		}
	}
	slices.Sort(l)
	return slices.Compact(l)
}

// worked is whether a system is on then: on above high, and then from low on.
func worked(was bool, p, high, low int32) bool {
	if p > high {
		return true
	}
	if p < low {
		return false
	}
	return was
}

func mustStep(t *testing.T, on [2]bool, p [2]int32, high, low int32, want [2]bool) {
	t.Helper()
	if got, e := Step(on, p, high, low); got != want || e != api.OK {
		t.Fatalf("Step(%v, %v, %d, %d) = %v, %d, want %v, OK", on, p, high, low, got, e, want)
	}
}

// mustNotStep tells nothing beside the error.
func mustNotStep(t *testing.T, on [2]bool, p [2]int32, high, low int32) {
	t.Helper()
	if got, e := Step(on, p, high, low); got != ([2]bool{}) || e != api.ErrArg {
		t.Fatalf("Step(%v, %v, %d, %d) = %v, %d, want nothing, ErrArg", on, p, high, low, got, e)
	}
}

func mustSource(t *testing.T, on [2]bool, lane, want int, wantErr api.Errno) {
	t.Helper()
	if got, e := Source(on, lane); got != want || e != wantErr {
		t.Fatalf("Source(%v, %d) = %d, %d, want %d, %d", on, lane, got, e, want, wantErr)
	}
}

func mustSupply(t *testing.T, on [2]bool, p [2]int32, want [4]int32, wantHas [4]bool) {
	t.Helper()
	if got, has := Supply(on, p); got != want || has != wantHas {
		t.Fatalf("Supply(%v, %v) = %v, %v, want %v, %v", on, p, got, has, want, wantHas)
	}
}

func someOn(r *rand.Rand) [2]bool {
	return everyOn[r.Intn(len(everyOn))]
}

func someNumber(r *rand.Rand) int32 {
	return int32(r.Uint32()) >> r.Intn(32)
}

// P50: each system by itself, on above high and then from low on.
func TestStep(t *testing.T) {
	mustStep(t, [2]bool{}, [2]int32{}, 0, 0, [2]bool{})
	mustStep(t, [2]bool{false, false}, [2]int32{9, 8}, 8, 5, [2]bool{true, false})
	mustStep(t, [2]bool{false, false}, [2]int32{8, 9}, 8, 5, [2]bool{false, true})
	mustStep(t, [2]bool{true, true}, [2]int32{5, 4}, 8, 5, [2]bool{true, false})
	mustStep(t, [2]bool{true, true}, [2]int32{4, 5}, 8, 5, [2]bool{false, true})
	mustStep(t, [2]bool{true, false}, [2]int32{6, 6}, 8, 5, [2]bool{true, false})
	mustStep(t, [2]bool{false, true}, [2]int32{6, 6}, 8, 5, [2]bool{false, true})
	mustStep(t, [2]bool{true, false}, [2]int32{4, 9}, 8, 5, [2]bool{false, true})
	mustStep(t, [2]bool{false, true}, [2]int32{9, 4}, 8, 5, [2]bool{true, false})
}

// P50: bounds of 0, and such as are one number.
func TestStepNarrow(t *testing.T) {
	mustStep(t, [2]bool{true, false}, [2]int32{0, 0}, 0, 0, [2]bool{true, false})
	mustStep(t, [2]bool{true, false}, [2]int32{-1, 1}, 0, 0, [2]bool{false, true})
	mustStep(t, [2]bool{false, true}, [2]int32{5, 5}, 5, 5, [2]bool{false, true})
	mustStep(t, [2]bool{false, true}, [2]int32{6, 4}, 5, 5, [2]bool{true, false})
	// Nothing is above the greatest number.
	mustStep(t, [2]bool{true, false}, [2]int32{math.MaxInt32, math.MaxInt32}, math.MaxInt32, 0, [2]bool{true, false})
	mustStep(t, [2]bool{true, true}, [2]int32{math.MaxInt32 - 1, math.MinInt32}, math.MaxInt32, math.MaxInt32, [2]bool{})
}

// P50: each way to have been on, with each two pressures at and beside each of the
// bounds.
func TestStepEverywhere(t *testing.T) {
	for _, b := range someBounds {
		low, high := b[0], b[1]
		for _, on := range everyOn {
			for _, p0 := range near(low, high) {
				for _, p1 := range near(low, high) {
					want := [2]bool{worked(on[0], p0, high, low), worked(on[1], p1, high, low)}
					mustStep(t, on, [2]int32{p0, p1}, high, low, want)
				}
			}
		}
	}
}

// P50: all small bounds, right and wrong ones.
func TestStepSmall(t *testing.T) {
	for low := int32(-4); low <= 4; low++ {
		for high := int32(-4); high <= 4; high++ {
			for _, on := range everyOn {
				for p := int32(-5); p <= 5; p++ {
					if low < 0 || low > high {
						mustNotStep(t, on, [2]int32{p, -p}, high, low)
						continue
					}
					want := [2]bool{worked(on[0], p, high, low), worked(on[1], -p, high, low)}
					mustStep(t, on, [2]int32{p, -p}, high, low, want)
				}
			}
		}
	}
}

// P50: wrong bounds are ErrArg, whatever was on and however it pushes, and nothing
// is told beside it.
func TestStepWrong(t *testing.T) {
	for _, b := range wrongBounds {
		for _, on := range everyOn {
			for _, p0 := range near(b[0], b[1]) {
				for _, p1 := range near(b[0], b[1]) {
					mustNotStep(t, on, [2]int32{p0, p1}, b[1], b[0])
				}
			}
		}
	}
}

// P50: any numbers.
func TestStepOfAny(t *testing.T) {
	r := rand.New(rand.NewSource(50))
	for range 100000 {
		on, low, high := someOn(r), someNumber(r), someNumber(r)
		p := [2]int32{someNumber(r), someNumber(r)}
		if low < 0 || low > high {
			mustNotStep(t, on, p, high, low)
			continue
		}
		mustStep(t, on, p, high, low, [2]bool{worked(on[0], p[0], high, low), worked(on[1], p[1], high, low)})
	}
}

// P51: its own system ahead of the other one, to which lanes 1 and 3 alone go over.
func TestSource(t *testing.T) {
	mustSource(t, [2]bool{true, false}, 0, 0, api.OK)
	mustSource(t, [2]bool{false, true}, 0, 0, api.ErrNone)
	mustSource(t, [2]bool{false, true}, 1, 1, api.OK)
	mustSource(t, [2]bool{true, true}, 1, 0, api.OK)
	mustSource(t, [2]bool{true, false}, 2, 0, api.ErrNone)
	mustSource(t, [2]bool{true, false}, 3, 0, api.OK)
	mustSource(t, [2]bool{true, true}, 3, 1, api.OK)
	for on, row := range sources {
		for lane, want := range row {
			if want == none {
				mustSource(t, on, lane, 0, api.ErrNone)
				continue
			}
			mustSource(t, on, lane, want, api.OK)
		}
	}
}

// P51: ErrArg of a lane that there is not, also where no system is on.
func TestSourceWrong(t *testing.T) {
	for _, on := range everyOn {
		for _, lane := range notLanes {
			mustSource(t, on, lane, 0, api.ErrArg)
		}
		for lane := -300; lane <= 300; lane++ {
			if lane < 0 || lane > 3 {
				mustSource(t, on, lane, 0, api.ErrArg)
			}
		}
	}
}

// P51: 0 and false of a lane that has no source, whatever both systems have.
func TestSupply(t *testing.T) {
	p := [2]int32{6, 7}
	mustSupply(t, [2]bool{false, false}, p, [4]int32{}, [4]bool{})
	mustSupply(t, [2]bool{true, false}, p, [4]int32{6, 6, 0, 6}, [4]bool{true, true, false, true})
	mustSupply(t, [2]bool{false, true}, p, [4]int32{0, 7, 7, 7}, [4]bool{false, true, true, true})
	mustSupply(t, [2]bool{true, true}, p, [4]int32{6, 6, 7, 7}, [4]bool{true, true, true, true})
}

// P51: what is on and has no pressure, or one below 0, is a source all the same.
func TestSupplyOfLittle(t *testing.T) {
	mustSupply(t, [2]bool{true, false}, [2]int32{0, 7}, [4]int32{}, [4]bool{true, true, false, true})
	mustSupply(t, [2]bool{true, true}, [2]int32{-5, math.MinInt32}, [4]int32{-5, -5, math.MinInt32, math.MinInt32}, [4]bool{true, true, true, true})
	mustSupply(t, [2]bool{false, true}, [2]int32{9, -1}, [4]int32{0, -1, -1, -1}, [4]bool{false, true, true, true})
}

// P51: each two pressures go by the sources.
func TestSupplyEverywhere(t *testing.T) {
	l := []int32{math.MinInt32, math.MinInt32 + 1, -65536, -1, 0, 1, 2, 65536, math.MaxInt32 - 1, math.MaxInt32}
	for on, row := range sources {
		for _, p0 := range l {
			for _, p1 := range l {
				p := [2]int32{p0, p1}
				var want [4]int32
				var has [4]bool
				for lane, source := range row {
					if source != none {
						want[lane], has[lane] = p[source], true
					}
				}
				mustSupply(t, on, p, want, has)
			}
		}
	}
}

// P2: what is told again is the same, whatever was asked between.
func TestNothingIsKept(t *testing.T) {
	r := rand.New(rand.NewSource(2))
	for range 3000 {
		on, p, lane := someOn(r), [2]int32{someNumber(r), someNumber(r)}, r.Intn(6)-1
		high, low := someNumber(r), someNumber(r)
		next, stepErr := Step(on, p, high, low)
		source, sourceErr := Source(on, lane)
		oil, has := Supply(on, p)
		for range 3 {
			other := someOn(r)
			Step(other, [2]int32{someNumber(r), someNumber(r)}, someNumber(r), someNumber(r))
			Source(other, r.Intn(6)-1)
			Supply(other, [2]int32{someNumber(r), someNumber(r)})
		}
		if again, e := Step(on, p, high, low); again != next || e != stepErr {
			t.Fatalf("Step(%v, %v, %d, %d) = %v, %d, and then %v, %d", on, p, high, low, next, stepErr, again, e)
		}
		mustSource(t, on, lane, source, sourceErr)
		mustSupply(t, on, p, oil, has)
	}
}
