package tick

import (
	"math"
	"math/big"
	"math/rand"
	"slices"
	"testing"

	"steadyhand/api"
)

const most = 1 << 40

// ends are the ticks at and beside which something turns.
var ends = []int{
	-most, -most + 1, -most + 2, -1 << 39, -1 << 32, -1<<31 - 1, -1 << 31, -65537, -65536, -3, -2, -1,
	0, 1, 2, 3, 65535, 65536, 1<<31 - 1, 1 << 31, 1 << 32, 1 << 39, most - 2, most - 1, most,
}

// notTicks are too far from 0; some of them are ticks in their lower bits.
var notTicks = []int{
	most + 1, -most - 1, most + 2, -most - 2, 2 * most, -2 * most, 1 << 62, -1 << 62, 1<<41 + 1, math.MaxInt, math.MaxInt - 1, math.MinInt, math.MinInt + 1,
}

// notMany are numbers that can't be left out: there are none below 0.
var notMany = []int{-1, -2, -3, -32, -64, -1 << 31, -1 << 32, -1<<62 - 1, math.MinInt, math.MinInt + 1}

// tooMany are more than the half of any list; doubled some of them go round.
var tooMany = []int{33, 64, 65, 1 << 31, 1 << 32, 1<<62 - 1, 1 << 62, 1<<62 + 1, 1<<63 - 2, math.MaxInt}

func mustMidway(t *testing.T, l []int, f, want int, wantErr api.Errno) {
	t.Helper()
	if got, e := Midway(l, f); got != want || e != wantErr {
		t.Fatalf("Midway(%v, %d) = %d, %d, want %d, %d", l, f, got, e, want, wantErr)
	}
}

func mustAdjust(t *testing.T, own int, l []int, f, want int, wantErr api.Errno) {
	t.Helper()
	if got, e := Adjust(own, l, f); got != want || e != wantErr {
		t.Fatalf("Adjust(%d, %v, %d) = %d, %d, want %d, %d", own, l, f, got, e, want, wantErr)
	}
}

// run is many numbers from first on, each by so much more than the one ahead.
func run(many, first, by int) []int {
	l := make([]int, many)
	for k := range l {
		l[k] = first + k*by
	}
	return l
}

// some are many ticks: near to each other, ends, or any.
func some(r *rand.Rand, many int) []int {
	l := make([]int, many)
	kind, wide := r.Intn(3), r.Intn(41)
	for k := range l {
		switch kind {
		case 0:
			l[k] = r.Intn(9) - 4
		case 1:
			l[k] = ends[r.Intn(len(ends))]
		default:
			l[k] = r.Intn(2<<wide+1) - 1<<wide
		}
	}
	return l
}

// taken takes the least and the greatest one out of a list f times, and halves,
// rounded down, what the ends of the rest come to, in numbers without end.
func taken(l []int, f int) int {
	rest := slices.Clone(l)
	for range f {
		least := slices.Index(rest, slices.Min(rest))
		rest = slices.Delete(rest, least, least+1)
		greatest := slices.Index(rest, slices.Max(rest))
		rest = slices.Delete(rest, greatest, greatest+1)
	}
	both := new(big.Int).Add(big.NewInt(int64(slices.Min(rest))), big.NewInt(int64(slices.Max(rest))))
	return int(both.Div(both, big.NewInt(2)).Int64())
}

// everyList goes through all lists of so many numbers out of numbers.
func everyList(many int, numbers []int, do func([]int)) {
	l := make([]int, many)
	var fill func(k int)
	fill = func(k int) {
		if k == many {
			do(l)
			return
		}
		for _, n := range numbers {
			l[k] = n
			fill(k + 1)
		}
	}
	fill(0)
}

// P34.
func TestMidway(t *testing.T) {
	for _, x := range []struct {
		l    []int
		f    int
		want int
	}{
		{[]int{1, 900, 3, -700}, 1, 2}, {[]int{1, 900, 3, -700}, 0, 100}, {[]int{-700, 1, 3, 900}, 1, 2}, {[]int{900, 3, 1, -700}, 1, 2},
		{[]int{7}, 0, 7}, {[]int{-7}, 0, -7}, {[]int{0}, 0, 0}, {[]int{most}, 0, most}, {[]int{-most}, 0, -most},
		{[]int{4, 8}, 0, 6}, {[]int{8, 4}, 0, 6}, {[]int{5, 5}, 0, 5}, {[]int{1, 2, 9}, 0, 5}, {[]int{9, 1, 2}, 1, 2},
		{[]int{0, 5}, 0, 2}, {[]int{5, 0}, 0, 2}, {[]int{-5, 0}, 0, -3}, {[]int{0, -5}, 0, -3}, {[]int{-1, 0}, 0, -1}, {[]int{0, 1}, 0, 0}, {[]int{-1, 1}, 0, 0},
		{[]int{-2, 1}, 0, -1}, {[]int{-1, 2}, 0, 0}, {[]int{-4, -1}, 0, -3}, {[]int{-4, -2}, 0, -3}, {[]int{1, 4}, 0, 2},
		{[]int{5, 5, 5, 9}, 1, 5}, {[]int{9, 9, 5, 5}, 1, 7}, {[]int{5, 5, 9}, 1, 5}, {[]int{9, 9, 5}, 1, 9}, {[]int{3, 3, 3}, 1, 3},
		{[]int{1, 2, 3, 4, 50}, 2, 3}, {[]int{50, 4, 1, 3, 2}, 1, 3}, {[]int{1, 2, 3, 40, 50, 60}, 2, 21}, {[]int{60, 50, 40, 3, 2, 1, 0}, 2, 21},
		{[]int{most, -most}, 0, 0}, {[]int{most, -most + 1}, 0, 0}, {[]int{most - 1, -most}, 0, -1}, {[]int{most, most}, 0, most}, {[]int{most, most - 1}, 0, most - 1},
		{[]int{-most, -most}, 0, -most}, {[]int{-most, -most + 1}, 0, -most}, {[]int{-most, -most + 2}, 0, -most + 1}, {[]int{most, -most, 5}, 1, 5},
		{[]int{1 << 32, 1}, 0, 1 << 31}, {[]int{1 << 31, 1<<31 - 1}, 0, 1<<31 - 1}, {[]int{-1 << 32, 1, 5}, 1, 1},
		{run(64, 0, 2), 0, 63}, {run(64, 0, 2), 31, 63}, {run(64, 0, 1), 0, 31}, {run(64, 0, 1), 31, 31}, {run(64, -63, 1), 31, -32},
		{run(63, 0, 2), 31, 62}, {run(63, 100, -2), 31, 38}, {run(64, most, -1), 1, most - 32}, {run(64, most, 0), 31, most}, {run(64, -most, 0), 0, -most},
	} {
		mustMidway(t, x.l, x.f, x.want, api.OK)
	}
}

// P34: not more than f times 2 are too few, of each length beside each f.
func TestMidwayOfTooFew(t *testing.T) {
	for many := 0; many <= 64; many++ {
		l := run(many, -9, 3)
		for f := 0; f <= 70; f++ {
			if many > 2*f {
				mustMidway(t, l, f, taken(l, f), api.OK)
			} else {
				mustMidway(t, l, f, 0, api.ErrNone)
			}
		}
		for _, f := range tooMany {
			mustMidway(t, l, f, 0, api.ErrNone)
		}
	}
	mustMidway(t, nil, 0, 0, api.ErrNone)
	mustMidway(t, []int{}, 0, 0, api.ErrNone)
	mustMidway(t, nil, 1, 0, api.ErrNone)
	mustMidway(t, []int{1, 2}, 1, 0, api.ErrNone)
	mustMidway(t, []int{5}, 1, 0, api.ErrNone)
}

// P34: one number that is no tick is enough, wherever it stands, also where it
// would be left out, and where there are too few.
func TestMidwayOfWhatIsNoTick(t *testing.T) {
	for many := 1; many <= 64; many++ {
		for _, wrong := range notTicks {
			for k := range many {
				l := run(many, -9, 3)
				l[k] = wrong
				for _, f := range []int{0, 1, (many - 1) / 2, many, math.MaxInt, -1} {
					mustMidway(t, l, f, 0, api.ErrArg)
				}
			}
		}
	}
}

// P34: both ends are ticks, at each place.
func TestMidwayOfTheLastTicks(t *testing.T) {
	for _, end := range []int{-most, -most + 1, most - 1, most} {
		for many := 1; many <= 64; many++ {
			l := run(many, -9, 3)
			l[many/2] = end
			for f := 0; 2*f < many; f++ {
				mustMidway(t, l, f, taken(l, f), api.OK)
			}
		}
	}
}

// P34: f below 0 is told ahead of too few.
func TestMidwayWithoutFewerThanNone(t *testing.T) {
	for _, f := range notMany {
		for many := 0; many <= 64; many++ {
			mustMidway(t, run(many, -9, 3), f, 0, api.ErrArg)
		}
	}
}

// P34: too long is told ahead of all else.
func TestMidwayOfTooLong(t *testing.T) {
	for _, many := range []int{65, 66, 128, 129, 256, 1000, 65536 + 3} {
		for _, f := range slices.Concat([]int{0, 1, 2, 31, 32, many / 2, many}, notMany, tooMany) {
			mustMidway(t, run(many, 0, 1), f, 0, api.ErrLarge)
			l := run(many, 0, 0)
			for _, k := range []int{0, 64, many - 1} {
				l[k] = most + 1
				mustMidway(t, l, f, 0, api.ErrLarge)
			}
		}
	}
}

// P34: all short lists of few numbers, beside a second way.
func TestMidwayOfEveryShortList(t *testing.T) {
	for _, numbers := range [][]int{{-2, -1, 0, 1, 3}, {-most, -7, 8, most - 1, most}} {
		for many := 1; many <= 6; many++ {
			everyList(many, numbers, func(l []int) {
				for f := 0; 2*f < many; f++ {
					mustMidway(t, l, f, taken(l, f), api.OK)
				}
			})
		}
	}
}

// P34: long lists, in any order.
func TestMidwayEverywhere(t *testing.T) {
	r := rand.New(rand.NewSource(34))
	for many := 1; many <= 64; many++ {
		for range 30 {
			l := some(r, many)
			for f := 0; 2*f < many; f++ {
				want := taken(l, f)
				mustMidway(t, l, f, want, api.OK)
				r.Shuffle(many, func(a, b int) { l[a], l[b] = l[b], l[a] })
				mustMidway(t, l, f, want, api.OK)
			}
		}
	}
}

// P35.
func TestAdjust(t *testing.T) {
	for _, x := range []struct {
		own  int
		l    []int
		f    int
		want int
	}{
		{5, []int{1, 3}, 0, -3}, {2, []int{1, 3}, 0, 0}, {-5, []int{1, 3}, 0, 7}, {0, []int{1, 900, 3, -700}, 1, 2}, {10, []int{1, 900, 3, -700}, 1, -8},
		{0, []int{-5, 0}, 0, -3}, {-3, []int{-5, 0}, 0, 0}, {1, []int{0, 5}, 0, 1}, {7, []int{7}, 0, 0},
		{most, []int{-most}, 0, -2 * most}, {-most, []int{most}, 0, 2 * most}, {most, []int{most}, 0, 0}, {-most, []int{-most}, 0, 0},
		{most, []int{-most, most}, 0, -most}, {-most, []int{-most, most}, 0, most}, {most, []int{0, most}, 0, -1 << 39}, {1, []int{1 << 32}, 0, 1<<32 - 1},
	} {
		mustAdjust(t, x.own, x.l, x.f, x.want, api.OK)
	}
}

// P35: whose own it is doesn't count in the list.
func TestAdjustEverywhere(t *testing.T) {
	r := rand.New(rand.NewSource(35))
	for many := 1; many <= 64; many++ {
		for range 10 {
			l := some(r, many)
			for f := 0; 2*f < many; f++ {
				for _, own := range slices.Concat(ends, l[:1], some(r, 2)) {
					mustAdjust(t, own, l, f, taken(l, f)-own, api.OK)
				}
			}
		}
	}
}

// P35: what is wrong with own is told ahead of what is wrong with the list.
func TestAdjustWrongOwn(t *testing.T) {
	lists := [][]int{nil, {}, {5}, {1, 3}, {1, 900, 3, -700}, {most + 1}, {math.MinInt, 1, 2}, run(64, 0, 1), run(65, 0, 1), run(1000, 0, 0)}
	for _, own := range notTicks {
		for _, l := range lists {
			for _, f := range []int{0, 1, 31, 32, math.MaxInt, -1, math.MinInt} {
				mustAdjust(t, own, l, f, 0, api.ErrArg)
			}
		}
	}
}

// P35: Midway's errors, in Midway's order, whatever own is.
func TestAdjustWrongList(t *testing.T) {
	for _, own := range ends {
		for _, f := range slices.Concat([]int{0, 1, 32}, notMany, tooMany) {
			mustAdjust(t, own, run(65, 0, 1), f, 0, api.ErrLarge)
			mustAdjust(t, own, run(65, most+1, 0), f, 0, api.ErrLarge)
		}
		for _, wrong := range notTicks {
			mustAdjust(t, own, []int{wrong}, 0, 0, api.ErrArg)
			mustAdjust(t, own, []int{1, wrong, 2}, 1, 0, api.ErrArg)
			mustAdjust(t, own, []int{1, wrong, 2}, 2, 0, api.ErrArg)
		}
		for _, f := range notMany {
			mustAdjust(t, own, nil, f, 0, api.ErrArg)
			mustAdjust(t, own, []int{1, 2, 3}, f, 0, api.ErrArg)
		}
		mustAdjust(t, own, nil, 0, 0, api.ErrNone)
		mustAdjust(t, own, []int{1, 2}, 1, 0, api.ErrNone)
		for _, f := range tooMany {
			mustAdjust(t, own, []int{1, 2, 3}, f, 0, api.ErrNone)
			mustAdjust(t, own, run(64, 0, 1), f, 0, api.ErrNone)
		}
	}
}

// mustStay checks what the chapter says of clocks of which f are wrong, of one
// list in one way, of the other in another one.
func mustStay(t *testing.T, same, wrongs, others []int) {
	t.Helper()
	f := len(wrongs)
	one, e := Midway(slices.Concat(wrongs, same), f)
	other, e2 := Midway(slices.Concat(same, others), f)
	if e != api.OK || e2 != api.OK {
		t.Fatalf("Midway of %v beside %v and %v, %d wrong: errors %d, %d", same, wrongs, others, f, e, e2)
	}
	least, greatest := slices.Min(same), slices.Max(same)
	if min(one, other) < least || max(one, other) > greatest {
		t.Fatalf("Midway of %v beside %v and %v = %d, %d, want none outside of those that are the same", same, wrongs, others, one, other)
	}
	if max(one, other)-min(one, other) > (greatest-least+1)/2 {
		t.Fatalf("Midway of %v beside %v and %v = %d, %d, too far apart", same, wrongs, others, one, other)
	}
}

// P34, the chapter's last paragraph: all short lists with one wrong, of few
// numbers, the wrong ones from below to above the others.
func TestClocksStayTogetherOneWrong(t *testing.T) {
	for many := 3; many <= 5; many++ {
		everyList(many, []int{-2, -1, 0, 3}, func(same []int) {
			for a := -4; a <= 5; a++ {
				for b := -4; b <= 5; b++ {
					mustStay(t, same, []int{a}, []int{b})
				}
			}
		})
	}
}

// P34, the chapter's last paragraph: from 3 times f and 1 up to the longest list,
// with each f that there may be.
func TestClocksStayTogether(t *testing.T) {
	r := rand.New(rand.NewSource(36))
	for f := 0; 3*f < 64; f++ {
		for many := 3*f + 1; many <= 64; many++ {
			for range 20 {
				same := some(r, many-f)
				mustStay(t, same, some(r, f), some(r, f))
				mustStay(t, same, run(f, -most, 0), run(f, most, 0))
				mustStay(t, same, run(f, slices.Min(same), 0), run(f, slices.Max(same), 0))
			}
		}
	}
}

// P35: clocks that each go by what Adjust tells come together, to one tick at
// most, though one of four is wrong and tells each of them another number.
func TestClocksComeTogether(t *testing.T) {
	r := rand.New(rand.NewSource(37))
	for range 300 {
		clocks := some(r, 3)
		for range 45 {
			now := slices.Clone(clocks)
			for k, own := range now {
				by, e := Adjust(own, slices.Concat(now, some(r, 1)), 1)
				if e != api.OK {
					t.Fatalf("Adjust of %v: error %d", now, e)
				}
				clocks[k] = own + by
			}
		}
		if slices.Max(clocks)-slices.Min(clocks) > 1 {
			t.Fatalf("clocks are at %v behind 45 rounds", clocks)
		}
	}
}

// P2: what is handed in stays, the memory behind the list too, and what is told
// again is the same, whatever was asked between.
func TestNothingIsChanged(t *testing.T) {
	r := rand.New(rand.NewSource(2))
	for _, many := range []int{0, 1, 2, 3, 4, 9, 12, 13, 63, 64, 65} {
		for _, f := range []int{-1, 0, 1, 4, 31, 32} {
			l := some(r, many+8)
			was := slices.Clone(l)
			mid, e := Midway(l[:many], f)
			by, e2 := Adjust(3, l[:many], f)
			Midway(some(r, 5), 1)
			Adjust(1, some(r, 5), 2)
			if !slices.Equal(l, was) {
				t.Errorf("a list of %d was changed from %v to %v", many, was, l)
			}
			mustMidway(t, l[:many], f, mid, e)
			mustAdjust(t, 3, l[:many], f, by, e2)
		}
	}
}
