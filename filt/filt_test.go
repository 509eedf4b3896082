package filt

import (
	"math"
	"math/big"
	"math/rand"
	"slices"
	"testing"

	"steadyhand/api"
)

const (
	most  = math.MaxInt32
	least = math.MinInt32
)

// ends are numbers at which something may go round, and some between.
var ends = []int32{
	least, least + 1, least + 2, least / 2, -65536, -1001, -9, -8, -4, -3, -2, -1,
	0, 1, 2, 3, 4, 8, 9, 1000, 65536, most / 2, most/2 + 1, most - 2, most - 1, most,
}

// run is many numbers, a step apart.
func run(many int, first, step int32) []int32 {
	l := make([]int32, many)
	for k := range l {
		l[k] = first + int32(k)*step
	}
	return l
}

// P14.
func TestLow(t *testing.T) {
	for _, x := range []struct {
		y, x int32
		bits int
		want int32
	}{
		{0, 8, 1, 4}, {4, 8, 1, 6}, {6, 8, 1, 7}, {7, 8, 1, 8}, {8, 8, 1, 8},
		{8, 0, 1, 4}, {0, -8, 1, -4}, {-8, 0, 1, -4}, {-3, 5, 2, -1}, {5, -3, 2, 3},
		// With no bits it is there at once.
		{0, 8, 0, 8}, {5, -7, 0, -7}, {5, 5, 0, 5}, {least, most, 0, most}, {most, least, 0, least},
		// Rounded toward 0 on both sides: not down, not to the nearest.
		{0, 7, 1, 3}, {0, -7, 1, -3}, {0, 7, 2, 1}, {0, -7, 2, -1}, {10, 3, 1, 7}, {10, 3, 2, 9}, {-10, -3, 2, -9},
		// A step of 1 where there would be none, either way.
		{0, 1, 1, 1}, {0, -1, 1, -1}, {0, 3, 2, 1}, {0, -3, 2, -1}, {0, 1, 30, 1}, {0, -1, 30, -1},
		{5, 6, 30, 6}, {5, 4, 30, 4}, {-5, 100, 30, -4}, {-5, -100, 30, -6}, {0, 1<<30 - 1, 30, 1}, {0, 1 - 1<<30, 30, -1},
		// None from where it is.
		{0, 0, 0, 0}, {0, 0, 30, 0}, {7, 7, 3, 7}, {least, least, 1, least}, {most, most, 30, most},
		// Ways that 32 bits don't hold.
		{least, most, 1, -1}, {most, least, 1, 0}, {least, most, 30, least + 3}, {most, least, 30, most - 3},
		{0, most, 30, 1}, {0, least, 30, -2}, {least, 0, 30, least + 2}, {-1, most, 30, 1}, {most, -1, 30, most - 2},
		{most - 1, most, 30, most}, {least + 1, least, 30, least},
	} {
		if got, e := Low(x.y, x.x, x.bits); got != x.want || e != api.OK {
			t.Errorf("Low(%d, %d, %d) = %d, %d, want %d, OK", x.y, x.x, x.bits, got, e, x.want)
		}
	}
}

// P14.
func TestLowWrongBits(t *testing.T) {
	for _, bits := range []int{-1, -2, -30, 31, 32, 33, 63, 64, 1000, math.MinInt, math.MaxInt, 1 << 32, 1<<32 + 1, -1 << 32} {
		for _, y := range ends {
			for _, x := range []int32{least, 0, 1, most, y} {
				if got, e := Low(y, x, bits); got != 0 || e != api.ErrArg {
					t.Fatalf("Low(%d, %d, %d) = %d, %d, want 0, ErrArg", y, x, bits, got, e)
				}
			}
		}
	}
}

// stepped is what stands in P14, in numbers without end.
func stepped(y, x int32, bits int) int32 {
	way := new(big.Int).Sub(big.NewInt(int64(x)), big.NewInt(int64(y)))
	// Quo rounds toward 0.
	step := new(big.Int).Quo(way, new(big.Int).Lsh(big.NewInt(1), uint(bits)))
	if step.Sign() == 0 {
		step.SetInt64(int64(way.Sign()))
	}
	return int32(step.Int64() + int64(y))
}

// P14.
func TestLowEverywhere(t *testing.T) {
	check := func(y, x int32, bits int) {
		if got, e := Low(y, x, bits); got != stepped(y, x, bits) || e != api.OK {
			t.Fatalf("Low(%d, %d, %d) = %d, %d, want %d, OK", y, x, bits, got, e, stepped(y, x, bits))
		}
	}
	r := rand.New(rand.NewSource(14))
	for bits := 0; bits <= 30; bits++ {
		for _, y := range ends {
			for _, x := range ends {
				check(y, x, bits)
			}
			// Ways at and beside a whole step.
			for d := int32(-2); d <= 2; d++ {
				check(0, 1<<bits+d, bits)
				check(0, -1<<bits+d, bits)
			}
		}
		for range 500 {
			check(int32(r.Uint32()), int32(r.Uint32()), bits)
		}
	}
}

// P14: what goes on toward x gets there, and not past it.
func TestLowArrives(t *testing.T) {
	for _, bits := range []int{0, 1, 2, 5} {
		for _, from := range ends {
			for _, to := range ends {
				y := from
				for n := 0; y != to; n++ {
					next, e := Low(y, to, bits)
					if e != api.OK || n > 3000 || from < to && (next <= y || next > to) || from > to && (next >= y || next < to) {
						t.Fatalf("from %d to %d with %d bits: %d is behind %d, %d", from, to, bits, next, y, e)
					}
					y = next
				}
			}
		}
	}
}

// P15.
func TestRate(t *testing.T) {
	for _, x := range []struct{ y, x, most, want int32 }{
		{0, 9, 4, 4}, {0, -9, 4, -4}, {0, 3, 4, 3}, {0, -3, 4, -3}, {0, 4, 4, 4}, {0, 5, 4, 4}, {0, -4, 4, -4}, {0, -5, 4, -4},
		{10, 0, 3, 7}, {10, 100, 3, 13}, {-10, 0, 3, -7}, {-10, -100, 3, -13}, {10, 12, 3, 12}, {10, 8, 3, 8},
		// The sign is not looked at.
		{0, 9, -4, 4}, {0, -9, -4, -4}, {0, 3, -4, 3}, {10, 0, -3, 7},
		// None.
		{5, 9, 0, 5}, {5, -9, 0, 5}, {5, 5, 0, 5}, {least, most, 0, least}, {most, least, 0, most},
		// The ends are saturated.
		{most - 1, most, 9, most}, {most - 1, least, 9, most - 10}, {most, most, most, most}, {most, least, most, 0},
		{least + 1, least, 9, least}, {least + 1, most, 9, least + 10}, {least, least, most, least}, {least, most, most, -1},
		{5, least, most, 5 - most}, {-5, most, most, most - 5}, {5, most, most, most}, {-5, least, most, least},
		{-1, least, most, least}, {0, least, most, least + 1}, {1, least, most, least + 2},
		// So is most: the least number without its sign is the greatest.
		{0, least, least, least + 1}, {0, most, least, most}, {least, most, least, -1}, {most, least, least, 0},
		{1, least, least, least + 2}, {-1, least, least, least}, {0, most, least + 1, most}, {1, least, least + 1, least + 2},
	} {
		if got := Rate(x.y, x.x, x.most); got != x.want {
			t.Errorf("Rate(%d, %d, %d) = %d, want %d", x.y, x.x, x.most, got, x.want)
		}
	}
}

// unsigned is n without its sign, saturated.
func unsigned(n int32) int64 { return min(max(int64(n), -int64(n)), most) }

// P15: of the two ends and x, whatever is nearest to x and near enough to y.
func TestRateEverywhere(t *testing.T) {
	check := func(y, x, m int32) {
		low := max(int64(y)-unsigned(m), least)
		high := min(int64(y)+unsigned(m), most)
		want := int64(x)
		if want < low {
			want = low
		} else if want > high {
			want = high
		}
		if got := Rate(y, x, m); int64(got) != want {
			t.Fatalf("Rate(%d, %d, %d) = %d, want %d", y, x, m, got, want)
		}
	}
	for _, y := range ends {
		for _, x := range ends {
			for _, m := range ends {
				check(y, x, m)
			}
		}
	}
	r := rand.New(rand.NewSource(15))
	for range 20000 {
		check(int32(r.Uint32()), int32(r.Uint32()), int32(r.Uint32())>>r.Intn(31))
	}
}

// P15.
func TestDead(t *testing.T) {
	for _, x := range []struct{ x, wide, want int32 }{
		{9, 4, 5}, {-9, 4, -5}, {5, 4, 1}, {-5, 4, -1}, {4, 4, 0}, {-4, 4, 0}, {3, 4, 0}, {-3, 4, 0}, {0, 4, 0},
		// The sign is not looked at.
		{9, -4, 5}, {-9, -4, -5}, {5, -4, 1}, {-5, -4, -1}, {4, -4, 0}, {-4, -4, 0}, {0, -4, 0},
		// None.
		{0, 0, 0}, {1, 0, 1}, {-1, 0, -1}, {most, 0, most}, {least, 0, least},
		// The ends.
		{most, 1, most - 1}, {least, 1, least + 1}, {most, most, 0}, {most, most - 1, 1}, {most - 1, most, 0},
		{least + 1, most, 0}, {least + 1, most - 1, -1}, {least + 2, most, 0}, {1, most, 0}, {-1, most, 0},
		// The least number is farther from 0 than what can be told without a sign.
		{least, most, -1}, {least, least, -1}, {least, least + 1, -1},
		{most, least, 0}, {most, least + 1, 0}, {least + 1, least, 0}, {most, least + 2, 1}, {0, least, 0},
	} {
		if got := Dead(x.x, x.wide); got != x.want {
			t.Errorf("Dead(%d, %d) = %d, want %d", x.x, x.wide, got, x.want)
		}
	}
}

// P15.
func TestDeadEverywhere(t *testing.T) {
	check := func(x, wide int32) {
		var want int64
		if w := unsigned(wide); int64(x) > w {
			want = int64(x) - w
		} else if -int64(x) > w {
			want = int64(x) + w
		}
		if got := Dead(x, wide); int64(got) != want {
			t.Fatalf("Dead(%d, %d) = %d, want %d", x, wide, got, want)
		}
	}
	for _, x := range ends {
		for _, wide := range ends {
			check(x, wide)
		}
	}
	r := rand.New(rand.NewSource(16))
	for range 20000 {
		check(int32(r.Uint32())>>r.Intn(31), int32(r.Uint32())>>r.Intn(31))
	}
}

// P16.
func TestTrip(t *testing.T) {
	for _, x := range []struct {
		x, high, low int32
		off, on      bool // what comes of what was off, and of what was on
	}{
		{9, 8, 4, true, true}, {8, 8, 4, false, true}, {7, 8, 4, false, true}, {5, 8, 4, false, true},
		{4, 8, 4, false, true}, {3, 8, 4, false, false}, {0, 8, 4, false, false}, {-9, 8, 4, false, false},
		{-3, -4, -8, true, true}, {-4, -4, -8, false, true}, {-8, -4, -8, false, true}, {-9, -4, -8, false, false},
		// One bound for both.
		{6, 5, 5, true, true}, {5, 5, 5, false, true}, {4, 5, 5, false, false},
		// The ends.
		{most, most, least, false, true}, {least, most, least, false, true}, {0, most, least, false, true},
		{most, most - 1, most, false, true}, {most, most - 1, most - 1, true, true}, {least, least, least, false, true},
		{least + 1, least, least, true, true}, {most, most, most, false, true}, {most - 1, most, most, false, false},
		{least, most, least + 1, false, false}, {most, 0, least, true, true}, {least, most, 0, false, false},
	} {
		for _, bounds := range [][2]int32{{x.high, x.low}, {x.low, x.high}} {
			if got := Trip(false, x.x, bounds[0], bounds[1]); got != x.off {
				t.Errorf("Trip(false, %d, %d, %d) = %v, want %v", x.x, bounds[0], bounds[1], got, x.off)
			}
			if got := Trip(true, x.x, bounds[0], bounds[1]); got != x.on {
				t.Errorf("Trip(true, %d, %d, %d) = %v, want %v", x.x, bounds[0], bounds[1], got, x.on)
			}
		}
	}
}

// P16.
func TestTripEverywhere(t *testing.T) {
	for _, x := range ends {
		for _, a := range ends {
			for _, b := range ends {
				above := x > a && x > b
				below := x < a && x < b
				if got := Trip(false, x, a, b); got != above {
					t.Fatalf("Trip(false, %d, %d, %d) = %v, want %v", x, a, b, got, above)
				}
				if got := Trip(true, x, a, b); got == below {
					t.Fatalf("Trip(true, %d, %d, %d) = %v, want %v", x, a, b, got, !below)
				}
			}
		}
	}
}

// P17.
func TestMiddle(t *testing.T) {
	for _, x := range []struct {
		l    []int32
		want int32
	}{
		{[]int32{7}, 7}, {[]int32{-7}, -7}, {[]int32{0}, 0}, {[]int32{least}, least}, {[]int32{most}, most},
		{[]int32{1, 2}, 1}, {[]int32{2, 1}, 1}, {[]int32{-1, -2}, -2}, {[]int32{most, least}, least}, {[]int32{3, 3}, 3},
		{[]int32{5, 900, 6}, 6}, {[]int32{1, 2, 3}, 2}, {[]int32{3, 2, 1}, 2}, {[]int32{2, 3, 1}, 2}, {[]int32{least, most, 0}, 0},
		{[]int32{9, 1, 5, 7}, 5}, {[]int32{1, 1, 2, 2}, 1}, {[]int32{2, 2, 1, 2}, 2}, {[]int32{most, least, most, least}, least},
		{[]int32{5, 4, 3, 2, 1}, 3}, {[]int32{1, 1, 1, 9, 9}, 1}, {[]int32{9, 1, 9, 1, 9}, 9}, {[]int32{-5, 5, -4, 4, 0}, 0},
		{[]int32{6, 5, 4, 3, 2, 1}, 3},
		{run(63, 0, 1), 31}, {run(64, 0, 1), 31}, {run(63, 0, -1), -31}, {run(64, 0, -1), -32}, {run(64, 4, 0), 4},
	} {
		if got, e := Middle(x.l); got != x.want || e != api.OK {
			t.Errorf("Middle(%v) = %d, %d, want %d, OK", x.l, got, e, x.want)
		}
	}
}

// P17: the middle one is in the list, (n-1)/2 may be below it and n/2 above it.
func TestMiddleEverywhere(t *testing.T) {
	r := rand.New(rand.NewSource(17))
	for many := 1; many <= api.MaxList; many++ {
		for range 50 {
			l := make([]int32, many)
			bits := r.Intn(32)
			for k := range l {
				l[k] = int32(r.Uint32()) >> bits
			}
			got, e := Middle(l)
			below, above := 0, 0
			for _, n := range l {
				if n < got {
					below++
				}
				if n > got {
					above++
				}
			}
			if e != api.OK || !slices.Contains(l, got) || below > (many-1)/2 || above > many/2 {
				t.Fatalf("Middle(%v) = %d, %d", l, got, e)
			}
		}
	}
}

// P17.
func TestMiddleWrong(t *testing.T) {
	for _, x := range []struct {
		l    []int32
		want api.Errno
	}{
		{nil, api.ErrNone}, {[]int32{}, api.ErrNone}, {run(9, 5, 1)[:0], api.ErrNone},
		{run(65, 5, 0), api.ErrLarge}, {run(66, 5, 1), api.ErrLarge}, {run(1000, 5, 1), api.ErrLarge},
	} {
		if got, e := Middle(x.l); got != 0 || e != x.want {
			t.Errorf("Middle(%v) = %d, %d, want 0, %d", x.l, got, e, x.want)
		}
	}
}

// P17.
func TestWindow(t *testing.T) {
	for _, x := range []struct {
		l    []int32
		x    int32
		n    int
		want []int32
	}{
		{[]int32{1, 2, 3}, 4, 2, []int32{3, 4}}, {[]int32{1, 2, 3}, 4, 1, []int32{4}}, {[]int32{1, 2, 3}, 4, 3, []int32{2, 3, 4}},
		// As many as there are, and more than there are.
		{[]int32{1, 2, 3}, 4, 4, []int32{1, 2, 3, 4}}, {[]int32{1, 2, 3}, 4, 5, []int32{1, 2, 3, 4}},
		{[]int32{1, 2, 3}, 4, 64, []int32{1, 2, 3, 4}},
		{nil, 7, 1, []int32{7}}, {nil, 7, 2, []int32{7}}, {nil, 0, 64, []int32{0}}, {[]int32{}, -7, 64, []int32{-7}},
		{[]int32{5}, 6, 1, []int32{6}}, {[]int32{5}, 6, 2, []int32{5, 6}}, {[]int32{5}, 5, 3, []int32{5, 5}},
		{[]int32{9, 8}, least, 2, []int32{8, least}}, {[]int32{most, least}, most, 3, []int32{most, least, most}},
		// Full.
		{run(64, 0, 1), 64, 64, run(64, 1, 1)}, {run(64, 0, 1), 64, 63, run(63, 2, 1)}, {run(64, 0, 1), 64, 1, []int32{64}},
		{run(63, 0, 1), 63, 64, run(64, 0, 1)}, {run(63, 0, 1), 63, 63, run(63, 1, 1)}, {run(62, 0, 1), 62, 64, run(63, 0, 1)},
		{run(64, 0, 1), 64, 2, []int32{63, 64}},
	} {
		if got, e := Window(x.l, x.x, x.n); !slices.Equal(got, x.want) || e != api.OK {
			t.Errorf("Window(%v, %d, %d) = %v, %d, want %v, OK", x.l, x.x, x.n, got, e, x.want)
		}
	}
}

// P17: every length with every n.
func TestWindowEverywhere(t *testing.T) {
	for many := 0; many <= api.MaxList; many++ {
		for n := 1; n <= api.MaxList; n++ {
			all := run(many+1, -9, 5)
			want := all[max(0, len(all)-n):]
			if got, e := Window(all[:many:many], all[many], n); !slices.Equal(got, want) || e != api.OK {
				t.Fatalf("Window of %d with %d = %v, %d, want %v, OK", many, n, got, e, want)
			}
		}
	}
}

// P17.
func TestWindowWrong(t *testing.T) {
	for _, x := range []struct {
		many, n int
		want    api.Errno
	}{
		{0, 0, api.ErrArg}, {3, 0, api.ErrArg}, {3, -1, api.ErrArg}, {3, 65, api.ErrArg}, {64, 65, api.ErrArg}, {64, 66, api.ErrArg},
		{3, math.MinInt, api.ErrArg}, {3, math.MaxInt, api.ErrArg}, {3, 1<<32 + 1, api.ErrArg}, {3, -1 << 32, api.ErrArg},
		// n is looked at first.
		{65, 0, api.ErrArg}, {65, 65, api.ErrArg}, {1000, -1, api.ErrArg},
		{65, 1, api.ErrLarge}, {65, 64, api.ErrLarge}, {66, 2, api.ErrLarge}, {1000, 64, api.ErrLarge},
	} {
		if got, e := Window(run(x.many, 1, 1), 5, x.n); got != nil || e != x.want {
			t.Errorf("Window of %d with %d = %v, %d, want none, %d", x.many, x.n, got, e, x.want)
		}
	}
}

// spare puts 8 numbers of memory behind l, and tells l and all of it.
func spare(l []int32) (short, whole []int32) {
	whole = append(slices.Clone(l), run(8, 1000, -7)...)
	return whole[:len(l)], whole
}

// P2: what is handed in stays, the memory behind the list too, and what is told
// again is the same.
func TestNothingIsChanged(t *testing.T) {
	for _, many := range []int{0, 1, 2, 3, 9, 63, 64, 65} {
		l, whole := spare(run(many, 500, -3))
		was := slices.Clone(whole)
		middle, e := Middle(l)
		if again, f := Middle(l); again != middle || f != e {
			t.Errorf("Middle of %d told %d, %d and then %d, %d", many, middle, e, again, f)
		}
		for _, n := range []int{0, 1, 2, 3, many, many + 1, 64, 65} {
			window, e := Window(l, -77, n)
			if again, f := Window(l, -77, n); !slices.Equal(again, window) || f != e {
				t.Errorf("Window of %d with %d told %v, %d and then %v, %d", many, n, window, e, again, f)
			}
		}
		if !slices.Equal(whole, was) {
			t.Errorf("a list of %d was changed", many)
		}
	}
}

// P2: Window tells new memory, that behind it too.
func TestWindowIsNew(t *testing.T) {
	for _, many := range []int{0, 1, 2, 3, 9, 63, 64} {
		for _, n := range []int{1, 2, 3, 10, 64} {
			l, whole := spare(run(many, 500, -3))
			was := slices.Clone(whole)
			got, _ := Window(l, -77, n)
			other, _ := Window(l, -77, n)
			want := slices.Clone(other)
			got = got[:cap(got)]
			for k := range got {
				got[k] = 99
			}
			if !slices.Equal(whole, was) {
				t.Errorf("Window of %d with %d shares memory with what was handed in", many, n)
			}
			if !slices.Equal(other, want) {
				t.Errorf("Window of %d with %d shares memory with what it told ahead of it", many, n)
			}
		}
	}
}
