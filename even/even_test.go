package even

import (
	"math"
	"math/rand"
	"testing"

	"steadyhand/api"
)

const (
	least = math.MinInt32
	most  = math.MaxInt32

	standby  = 0
	active   = 1
	bypassed = 2
	damped   = 3
)

type (
	four  = [4]int32
	modes = [4]int
)

// edges are the numbers at and beside which a type ends, a power of two stands or
// a sign turns.
var edges = []int32{
	least, least + 1, least + 2, least / 2, -65537, -65536, -9, -8, -7, -5, -4, -3, -2, -1,
	0, 1, 2, 3, 4, 5, 7, 8, 9, 65536, 65537, most / 2, most/2 + 1, most - 1, most,
}

// someMost are right bounds.
var someMost = []int32{0, 1, 2, 3, 8, 9, 65536, most / 2, most/2 + 1, most - 1, most}

// notModes are numbers that are no mode's, some of which have a mode's number in
// their lower bits.
var notModes = []int{
	-1, 4, 5, -2, -3, -4, 7, 8, 9, 255, 256, 257, -255, 65536, 65537, 1 << 32, 1<<32 + 1, 1<<32 + 3, 1 - 1<<32, -1 << 32, math.MaxInt, math.MinInt, math.MinInt + 1,
}

// notBits are beyond 0 to 30, some of which are within them in their lower bits.
var notBits = []int{
	-1, 31, 32, 33, -2, -30, -31, 63, 64, 65, 255, 256, 257, 65536, 1 << 32, 1<<32 + 1, 1<<32 + 30, 1 - 1<<32, math.MaxInt, math.MinInt, math.MinInt + 1,
}

// notMost are below 0.
var notMost = []int32{-1, -2, -9, -65536, least / 2, least + 1, least}

// nearest to n of what 32 bits hold.
func nearest(n int64) int32 {
	if n < least {
		return least
	}
	if n > most {
		return most
	}
	return int32(n)
}

// part of n by 2^bits: without its sign it is halved again and again, each time
// rounded down.
func part(n int64, bits int) int64 {
	if n < 0 {
		return -part(-n, bits)
	}
	for range bits {
		n /= 2
	}
	return n
}

// evened is the next offset of one lane.
func evened(off, fight int32, mode, bits int, bound int32) int32 {
	if mode == active {
		n := int64(nearest(int64(off) - part(int64(fight), bits)))
		if n > int64(bound) {
			return bound
		}
		if n < -int64(bound) {
			return -bound
		}
		return int32(n)
	}
	by := part(int64(off), bits)
	if by == 0 && off > 0 {
		by = 1
	}
	if by == 0 && off < 0 {
		by = -1
	}
	return int32(int64(off) - by)
}

// isRight is what Check asks for, said otherwise.
func isRight(off four, m modes, bits int, bound int32) bool {
	if bits < 0 || bits >= 31 || bound < 0 {
		return false
	}
	for k := range 4 {
		far := int64(off[k])
		if far < 0 {
			far = -far
		}
		if far > int64(bound) {
			return false
		}
		switch m[k] {
		case standby, active, bypassed, damped:
		default:
			return false
		}
	}
	return true
}

func mustCheck(t *testing.T, off four, m modes, bits int, bound int32) {
	t.Helper()
	want := api.ErrArg
	if isRight(off, m, bits, bound) {
		want = api.OK
	}
	if e := Check(off, m, bits, bound); e != want {
		t.Fatalf("Check(%v, %v, %d, %d) = %d, want %d", off, m, bits, bound, e, want)
	}
}

func mustStep(t *testing.T, off, fight four, m modes, bits int, bound int32, want four) {
	t.Helper()
	if got, e := Step(off, fight, m, bits, bound); got != want || e != api.OK {
		t.Fatalf("Step(%v, %v, %v, %d, %d) = %v, %d, want %v, OK", off, fight, m, bits, bound, got, e, want)
	}
}

// mustBeWrong with Check and with Step, which tells nothing beside the error.
func mustBeWrong(t *testing.T, off, fight four, m modes, bits int, bound int32) {
	t.Helper()
	if e := Check(off, m, bits, bound); e != api.ErrArg {
		t.Fatalf("Check(%v, %v, %d, %d) = %d, want ErrArg", off, m, bits, bound, e)
	}
	if got, e := Step(off, fight, m, bits, bound); got != (four{}) || e != api.ErrArg {
		t.Fatalf("Step(%v, %v, %v, %d, %d) = %v, %d, want nothing, ErrArg", off, fight, m, bits, bound, got, e)
	}
}

func mustTrim(t *testing.T, valves, off, want four) {
	t.Helper()
	if got := Trim(valves, off); got != want {
		t.Fatalf("Trim(%v, %v) = %v, want %v", valves, off, got, want)
	}
}

// everyModes are all ways in which four lanes may be in their modes.
func everyModes() []modes {
	var l []modes
	for n := range 256 {
		l = append(l, modes{n % 4, n / 4 % 4, n / 16 % 4, n / 64})
	}
	return l
}

func allIn(mode int) modes { return modes{mode, mode, mode, mode} }

func someNumber(r *rand.Rand) int32 { return int32(r.Uint32()) >> r.Intn(32) }

func someFour(r *rand.Rand) four {
	return four{someNumber(r), someNumber(r), someNumber(r), someNumber(r)}
}

func someModes(r *rand.Rand) modes {
	return modes{r.Intn(4), r.Intn(4), r.Intn(4), r.Intn(4)}
}

// within are offsets from -bound to bound.
func within(r *rand.Rand, bound int32) four {
	var off four
	for k := range off {
		switch r.Intn(6) {
		case 0:
			off[k] = bound
		case 1:
			off[k] = -bound
		default:
			off[k] = int32(r.Int63n(2*int64(bound)+1) - int64(bound))
		}
	}
	return off
}

// P52: what is right, and what is wrong by one only.
func TestCheck(t *testing.T) {
	right := modes{standby, active, bypassed, damped}
	for _, c := range []struct {
		off  four
		bits int
		most int32
		want api.Errno
	}{
		{four{}, 0, 0, api.OK},
		{four{}, 30, 0, api.OK},
		{four{}, -1, 0, api.ErrArg},
		{four{}, 31, 0, api.ErrArg},
		{four{}, 0, -1, api.ErrArg},
		{four{}, 0, most, api.OK},
		{four{}, 0, least, api.ErrArg},
		{four{3, -3, 0, 1}, 5, 3, api.OK},
		{four{4, 0, 0, 0}, 5, 3, api.ErrArg},
		{four{0, 0, 0, -4}, 5, 3, api.ErrArg},
		{four{0, 1, 0, 0}, 5, 0, api.ErrArg},
		{four{0, 0, -1, 0}, 5, 0, api.ErrArg},
		{four{most, -most, most, -most}, 30, most, api.OK},
		{four{most, 0, 0, 0}, 30, most - 1, api.ErrArg},
		{four{0, least, 0, 0}, 30, most, api.ErrArg},
		{four{0, 0, least, 0}, 30, least, api.ErrArg},
	} {
		if e := Check(c.off, right, c.bits, c.most); e != c.want {
			t.Errorf("Check(%v, %v, %d, %d) = %d, want %d", c.off, right, c.bits, c.most, e, c.want)
		}
	}
}

// P52: each number as the offset of each lane, with each bound.
func TestCheckOffsets(t *testing.T) {
	for _, bound := range someMost {
		for _, n := range append([]int32{bound, -bound, nearest(int64(bound) + 1), nearest(-int64(bound) - 1)}, edges...) {
			for k := range 4 {
				var off four
				off[k] = n
				for bits := 0; bits <= 30; bits += 15 {
					mustCheck(t, off, modes{active, standby, damped, bypassed}, bits, bound)
				}
			}
		}
	}
}

// P52: all modes are right, each together with each; a wrong one in any lane is
// ErrArg, whatever the others are.
func TestCheckModes(t *testing.T) {
	for _, m := range everyModes() {
		if e := Check(four{1, -1, 0, 1}, m, 3, 1); e != api.OK {
			t.Fatalf("Check of the modes %v = %d, want OK", m, e)
		}
		for k := range m {
			for _, not := range notModes {
				wrong := m
				wrong[k] = not
				mustBeWrong(t, four{1, -1, 0, 1}, four{5, 6, -7, 8}, wrong, 3, 1)
			}
		}
	}
}

// P52: bits and bounds that are wrong, with modes of every kind.
func TestWrong(t *testing.T) {
	for bits := range 31 {
		for _, bound := range someMost {
			mustCheck(t, four{bound, -bound, 0, 0}, modes{active, active, standby, damped}, bits, bound)
		}
	}
	for mode := range 4 {
		for _, bits := range notBits {
			for _, bound := range someMost {
				mustBeWrong(t, four{}, four{1, 2, 3, 4}, allIn(mode), bits, bound)
				mustBeWrong(t, four{bound, -bound, 0, 0}, four{}, allIn(mode), bits, bound)
			}
		}
		for _, bound := range notMost {
			for bits := range 31 {
				mustBeWrong(t, four{}, four{1, 2, 3, 4}, allIn(mode), bits, bound)
				mustBeWrong(t, four{bound, bound, bound, bound}, four{}, allIn(mode), bits, bound)
			}
		}
		for k := range 4 {
			for _, n := range []int32{10, -10, most, least, least + 1} {
				var off four
				off[k] = n
				mustBeWrong(t, off, four{1, -1, 1, -1}, allIn(mode), 2, 9)
			}
		}
		mustBeWrong(t, four{0, 0, 0, least}, four{}, allIn(mode), 0, most)
	}
}

// P52: an Active lane goes against its fight; who pushes more is trimmed down.
func TestStepActive(t *testing.T) {
	all := allIn(active)
	mustStep(t, four{}, four{8, -8, 1, 0}, all, 0, 100, four{-8, 8, -1, 0})
	// Rounded toward 0, either way; a fight that is too little does nothing.
	mustStep(t, four{}, four{7, -7, 9, -9}, all, 1, 100, four{-3, 3, -4, 4})
	mustStep(t, four{5, 5, -5, -5}, four{7, -7, 8, -8}, all, 3, 100, four{5, 5, -6, -4})
	// The fight alone is parted, the offset is not.
	mustStep(t, four{8, -8, 9, -9}, four{}, all, 1, 9, four{8, -8, 9, -9})
	mustStep(t, four{8, -8, 3, 5}, four{6, 6, -6, -2}, all, 1, 9, four{5, -9, 6, 6})
}

// P52: the ends are the bound's, and those of the type.
func TestStepActiveEnds(t *testing.T) {
	all := allIn(active)
	mustStep(t, four{}, four{3, -3, 4, -4}, all, 0, 3, four{-3, 3, -3, 3})
	mustStep(t, four{2, -2, 3, -3}, four{-1, 1, -1, 1}, all, 0, 3, four{3, -3, 3, -3})
	mustStep(t, four{3, -3, 3, -3}, four{6, -6, 7, -7}, all, 0, 3, four{-3, 3, -3, 3})
	mustStep(t, four{}, four{most, least, 1, -1}, all, 0, 0, four{})
	mustStep(t, four{most, -most, 1, -1}, four{least, most, least, most}, all, 0, most, four{most, -most, most, -most})
	mustStep(t, four{most, -most, 0, 0}, four{most, least, most, least}, all, 0, most, four{0, 1, -most, most})
	mustStep(t, four{}, four{least, most, 1 << 30, -1 << 30}, all, 30, 9, four{2, -1, -1, 1})
	mustStep(t, four{}, four{1<<30 - 1, 1 - 1<<30, 1, -1}, all, 30, 9, four{})
}

// P52: what does not push comes back to 0, whatever it fights with.
func TestStepOther(t *testing.T) {
	fight := four{most, least, 7, -7}
	for _, mode := range []int{standby, bypassed, damped} {
		mustStep(t, four{8, -8, 9, -9}, fight, allIn(mode), 1, 9, four{4, -4, 5, -5})
		mustStep(t, four{1, -1, 3, -3}, fight, allIn(mode), 2, 9, four{0, 0, 2, -2})
		mustStep(t, four{8, -8, 1, 0}, fight, allIn(mode), 0, 8, four{})
		mustStep(t, four{most, -most, 0, 1}, fight, allIn(mode), 30, most, four{most - 1, 1 - most, 0, 0})
		mustStep(t, four{most, -most, most - 1, 0}, fight, allIn(mode), 0, most, four{})
	}
	// Each lane by its own mode.
	mustStep(t, four{4, 4, 4, 4}, four{2, 2, 2, 2}, modes{active, standby, bypassed, damped}, 1, 4, four{3, 2, 2, 2})
	mustStep(t, four{4, 4, 4, 4}, four{2, 4, 6, 8}, modes{damped, bypassed, standby, active}, 1, 4, four{2, 2, 2, 0})
}

// P52: whatever a lane that does not push begins with, it comes to 0 and stays
// there.
func TestStepComesToZero(t *testing.T) {
	for bits := 0; bits <= 8; bits++ {
		off := four{most, -most, 1, -1}
		for range 10000 {
			next, e := Step(off, four{1, 2, 3, 4}, modes{standby, bypassed, damped, standby}, bits, most)
			if e != api.OK {
				t.Fatalf("bits %d: Step of %v: %d", bits, off, e)
			}
			off = next
		}
		if off != (four{}) {
			t.Errorf("bits %d: after many steps the offsets are %v", bits, off)
		}
	}
}

// P52: each edge as the offset and as the fight, with all bits, in each mode.
func TestStepEverywhere(t *testing.T) {
	for _, bound := range someMost {
		for _, n := range append([]int32{bound, -bound}, edges...) {
			if int64(n) > int64(bound) || int64(n) < -int64(bound) {
				continue
			}
			for _, fight := range edges {
				for bits := range 31 {
					var want four
					for mode := range 4 {
						want[mode] = evened(n, fight, mode, bits, bound)
					}
					mustStep(t, four{n, n, n, n}, four{fight, fight, fight, fight}, modes{0, 1, 2, 3}, bits, bound, want)
				}
			}
		}
	}
}

// P52: each lane goes by its own offset, fight and mode, in all ways of the modes.
func TestStepEachLane(t *testing.T) {
	off, fight := four{9, -7, 6, -3}, four{-11, 13, 17, -19}
	for _, m := range everyModes() {
		for bits := range 6 {
			var want four
			for k := range want {
				want[k] = evened(off[k], fight[k], m[k], bits, 12)
			}
			mustStep(t, off, fight, m, bits, 12, want)
		}
	}
}

// P52: any right numbers; and what came of them is right again.
func TestStepOfAny(t *testing.T) {
	r := rand.New(rand.NewSource(52))
	for range 200000 {
		bound, bits, m := max(someNumber(r), 0), r.Intn(31), someModes(r)
		off, fight := within(r, bound), someFour(r)
		var want four
		for k := range want {
			want[k] = evened(off[k], fight[k], m[k], bits, bound)
		}
		mustStep(t, off, fight, m, bits, bound, want)
		if e := Check(want, m, bits, bound); e != api.OK {
			t.Fatalf("Check(%v, %v, %d, %d) of what Step told = %d, want OK", want, m, bits, bound, e)
		}
	}
}

// P52: any numbers, right and wrong ones.
func TestCheckOfAny(t *testing.T) {
	r := rand.New(rand.NewSource(5252))
	for range 200000 {
		off, bound, bits := someFour(r), someNumber(r), r.Intn(40)-4
		m := modes{r.Intn(4), r.Intn(4), r.Intn(4), r.Intn(4)}
		if r.Intn(4) == 0 {
			m[r.Intn(4)] = r.Intn(8) - 2
		}
		if r.Intn(2) == 0 && bound >= 0 {
			off = within(r, bound)
		}
		mustCheck(t, off, m, bits, bound)
		if !isRight(off, m, bits, bound) {
			mustBeWrong(t, off, someFour(r), m, bits, bound)
		}
	}
}

// P53: each lane's valve and its own offset, saturated.
func TestTrim(t *testing.T) {
	mustTrim(t, four{}, four{}, four{})
	mustTrim(t, four{1, 2, 3, 4}, four{10, 20, 30, 40}, four{11, 22, 33, 44})
	mustTrim(t, four{1, 2, 3, 4}, four{-5, -2, 0, 1}, four{-4, 0, 3, 5})
	mustTrim(t, four{most, least, most, least}, four{1, -1, -1, 1}, four{most, least, most - 1, least + 1})
	mustTrim(t, four{most, least, most, least}, four{most, least, least, most}, four{most, least, -1, -1})
}

// P53: each edge with each, in each lane; there are no wrong numbers.
func TestTrimEverywhere(t *testing.T) {
	for _, valve := range edges {
		for _, off := range edges {
			sum := nearest(int64(valve) + int64(off))
			mustTrim(t, four{valve, valve, valve, valve}, four{off, off, off, off}, four{sum, sum, sum, sum})
			for k := range 4 {
				var valves, offs, want four
				valves[k], offs[k], want[k] = valve, off, sum
				mustTrim(t, valves, offs, want)
			}
		}
	}
}

// P53: any numbers.
func TestTrimOfAny(t *testing.T) {
	r := rand.New(rand.NewSource(53))
	for range 100000 {
		valves, off := someFour(r), someFour(r)
		var want four
		for k := range want {
			want[k] = nearest(int64(valves[k]) + int64(off[k]))
		}
		mustTrim(t, valves, off, want)
	}
}

// P2: what is told again is the same, whatever was asked between.
func TestNothingIsKept(t *testing.T) {
	r := rand.New(rand.NewSource(2))
	for range 3000 {
		bound, bits, m := max(someNumber(r), 0), r.Intn(34)-2, someModes(r)
		off, fight := within(r, bound), someFour(r)
		checked := Check(off, m, bits, bound)
		next, stepErr := Step(off, fight, m, bits, bound)
		trimmed := Trim(fight, off)
		for range 3 {
			other, n, way := someFour(r), someNumber(r), someModes(r)
			Check(other, way, r.Intn(34)-2, n)
			Step(other, someFour(r), way, r.Intn(34)-2, most)
			Trim(other, someFour(r))
		}
		if e := Check(off, m, bits, bound); e != checked {
			t.Fatalf("Check(%v, %v, %d, %d) = %d, and then %d", off, m, bits, bound, checked, e)
		}
		if again, e := Step(off, fight, m, bits, bound); again != next || e != stepErr {
			t.Fatalf("Step(%v, %v, %v, %d, %d) = %v, %d, and then %v, %d", off, fight, m, bits, bound, next, stepErr, again, e)
		}
		mustTrim(t, fight, off, trimmed)
	}
}
