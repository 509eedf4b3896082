package vote

import (
	"math"
	"math/rand"
	"slices"
	"sort"
	"testing"

	"steadyhand/api"
)

const (
	most  = math.MaxInt32
	least = math.MinInt32
)

// ends are numbers at which something may go round, and some between.
var ends = []int32{
	least, least + 1, least / 2, -65536, -9, -2, -1,
	0, 1, 2, 9, 65536, most / 2, most/2 + 1, most - 1, most,
}

// run is many numbers, a step apart.
func run(many int, first, step int32) []int32 {
	l := make([]int32, many)
	for k := range l {
		l[k] = first + int32(k)*step
	}
	return l
}

// all is as many times yes.
func all(many int, yes bool) []bool {
	ok := make([]bool, many)
	for k := range ok {
		ok[k] = yes
	}
	return ok
}

// bits is a list of bools, written as a text of 1 and 0.
func bits(s string) []bool {
	ok := make([]bool, len(s))
	for k := range ok {
		ok[k] = s[k] == '1'
	}
	return ok
}

// some is a list of numbers, near to each other or far, and which of them are ok.
func some(r *rand.Rand, many int) ([]int32, []bool) {
	l, ok := make([]int32, many), make([]bool, many)
	shift, few := r.Intn(32), r.Intn(4)
	for k := range l {
		l[k] = int32(r.Uint32()) >> shift
		ok[k] = r.Intn(4) >= few
	}
	return l, ok
}

// middle is the middle one of those that are ok, of two the lesser, and whether
// there is one.
func middle(l []int32, ok []bool) (int32, bool) {
	var kept []int
	for k := range l {
		if ok[k] {
			kept = append(kept, int(l[k]))
		}
	}
	if len(kept) == 0 {
		return 0, false
	}
	sort.Ints(kept)
	for len(kept) > 2 {
		kept = kept[1 : len(kept)-1]
	}
	return int32(kept[0]), true
}

func mustMid(t *testing.T, l []int32, ok []bool, want int32, wantErr api.Errno) {
	t.Helper()
	if got, e := Mid(l, ok); got != want || e != wantErr {
		t.Fatalf("Mid(%v, %v) = %d, %d, want %d, %d", l, ok, got, e, want, wantErr)
	}
}

func mustMajority(t *testing.T, l []int32, want int32, wantErr api.Errno) {
	t.Helper()
	if got, e := Majority(l); got != want || e != wantErr {
		t.Fatalf("Majority(%v) = %d, %d, want %d, %d", l, got, e, want, wantErr)
	}
}

func mustFar(t *testing.T, l []int32, ok []bool, m int32, want []bool) {
	t.Helper()
	if got, e := Far(l, ok, m); !slices.Equal(got, want) || e != api.OK {
		t.Fatalf("Far(%v, %v, %d) = %v, %d, want %v, OK", l, ok, m, got, e, want)
	}
}

func mustNotFar(t *testing.T, l []int32, ok []bool, m int32, want api.Errno) {
	t.Helper()
	if got, e := Far(l, ok, m); got != nil || e != want {
		t.Fatalf("Far(%v, %v, %d) = %v, %d, want no list, %d", l, ok, m, got, e, want)
	}
}

func mustSpread(t *testing.T, l []int32, want int64, wantErr api.Errno) {
	t.Helper()
	if got, e := Spread(l); got != want || e != wantErr {
		t.Fatalf("Spread(%v) = %d, %d, want %d, %d", l, got, e, want, wantErr)
	}
}

// P29.
func TestMid(t *testing.T) {
	for _, x := range []struct {
		l    []int32
		ok   string
		want int32
	}{
		{[]int32{5, 900, 6}, "111", 6}, {[]int32{5, 900, 6, 1}, "1110", 6}, {[]int32{5, 900, 6, 1}, "1111", 5},
		{[]int32{5, 900, 6, 1}, "0111", 6}, {[]int32{5, 900, 6, 1}, "1011", 5}, {[]int32{5, 900, 6, 1}, "1101", 5},
		// Of two the lesser, on both sides.
		{[]int32{5, 900, 6, 1}, "0110", 6}, {[]int32{5, 900, 6, 1}, "0101", 1}, {[]int32{-1, -2}, "11", -2},
		// One alone, wherever it is, and whatever the others are.
		{[]int32{7}, "1", 7}, {[]int32{0}, "1", 0}, {[]int32{1, 2, 3}, "100", 1}, {[]int32{1, 2, 3}, "010", 2}, {[]int32{1, 2, 3}, "001", 3},
		{[]int32{least, 9, most}, "010", 9}, {[]int32{0, 0, -8}, "001", -8},
		// The ends.
		{[]int32{least, most}, "11", least}, {[]int32{most, least}, "11", least}, {[]int32{most, least, 0}, "111", 0},
		{[]int32{most, most, least}, "111", most}, {[]int32{least}, "1", least}, {[]int32{least, most}, "01", most},
		// The same one again is one more.
		{[]int32{4, 4, 9}, "111", 4}, {[]int32{4, 9, 9}, "111", 9}, {[]int32{4, 9, 9}, "110", 4},
	} {
		mustMid(t, x.l, bits(x.ok), x.want, api.OK)
	}
	mustMid(t, run(64, 0, 1), all(64, true), 31, api.OK)
	mustMid(t, run(63, 0, -1), all(63, true), -31, api.OK)
	last := all(64, false)
	last[63] = true
	mustMid(t, run(64, 0, 1), last, 63, api.OK)
}

// P29: each way in which up to eight numbers may be ok, and longer lists.
func TestMidEverywhere(t *testing.T) {
	r := rand.New(rand.NewSource(29))
	check := func(l []int32, ok []bool) {
		if want, is := middle(l, ok); is {
			mustMid(t, l, ok, want, api.OK)
			return
		}
		mustMid(t, l, ok, 0, api.ErrNone)
	}
	for many := 0; many <= 8; many++ {
		for set := range 1 << many {
			l, ok := some(r, many)
			for k := range ok {
				ok[k] = set>>k&1 == 1
			}
			check(l, ok)
		}
	}
	for many := 0; many <= 64; many++ {
		for range 50 {
			check(some(r, many))
		}
	}
}

// P29: the one that is told first comes first.
func TestMidWrong(t *testing.T) {
	for _, x := range []struct {
		l    []int32
		ok   []bool
		want api.Errno
	}{
		{run(65, 5, 1), all(65, true), api.ErrLarge}, {run(65, 5, 1), all(65, false), api.ErrLarge},
		{run(65, 5, 1), all(64, true), api.ErrLarge}, {run(65, 5, 1), nil, api.ErrLarge}, {run(66, 5, 0), all(66, true), api.ErrLarge},
		{run(1000, 5, 1), all(3, true), api.ErrLarge}, {run(1000, 5, 1), all(1000, true), api.ErrLarge},
		{[]int32{5}, nil, api.ErrForm}, {[]int32{5}, []bool{}, api.ErrForm}, {[]int32{5, 6, 7}, bits("11"), api.ErrForm},
		{[]int32{5, 6, 7}, bits("00"), api.ErrForm}, {run(64, 5, 1), all(63, true), api.ErrForm}, {run(64, 5, 1), all(65, true), api.ErrForm},
		{[]int32{5, 6, 7}, bits("1111"), api.ErrForm}, {[]int32{5, 6, 7}, bits("1110"), api.ErrForm}, {[]int32{5, 6, 7}, bits("0000"), api.ErrForm},
		{nil, bits("1"), api.ErrForm}, {nil, bits("0"), api.ErrForm}, {[]int32{5}, all(1000, true), api.ErrForm},
		// Memory behind a list is not a part of it.
		{[]int32{5, 6}, bits("111")[:1], api.ErrForm},
		{nil, nil, api.ErrNone}, {[]int32{}, []bool{}, api.ErrNone}, {nil, []bool{}, api.ErrNone}, {run(9, 5, 1)[:0], all(9, true)[:0], api.ErrNone},
		{[]int32{5}, bits("0"), api.ErrNone}, {[]int32{5, 6, 7}, bits("000"), api.ErrNone}, {run(64, 5, 1), all(64, false), api.ErrNone},
	} {
		mustMid(t, x.l, x.ok, 0, x.want)
		// Far has Mid's error, also ahead of its own one.
		for _, m := range []int32{0, 10, most, -1, least} {
			mustNotFar(t, x.l, x.ok, m, x.want)
		}
	}
}

// P30.
func TestMajority(t *testing.T) {
	for _, x := range []struct {
		l    []int32
		want int32
	}{
		{[]int32{7}, 7}, {[]int32{0}, 0}, {[]int32{least}, least}, {[]int32{7, 7}, 7},
		{[]int32{4, 7, 4}, 4}, {[]int32{7, 4, 4}, 4}, {[]int32{4, 4, 7}, 4}, {[]int32{0, 9, 0}, 0}, {[]int32{most, least, most}, most},
		{[]int32{1, 1, 1, 2}, 1}, {[]int32{2, 1, 1, 1}, 1}, {[]int32{9, 1, 9, 9}, 9}, {[]int32{1, 2, 1, 3, 1}, 1}, {[]int32{2, 3, 1, 1, 1}, 1},
		{[]int32{1, 65537, 1}, 1}, {[]int32{least, 0, 0}, 0}, {[]int32{-1, -1, 1}, -1},
		{run(64, 6, 0), 6}, {append(run(33, 6, 0), run(31, 5, 0)...), 6}, {append(run(31, 6, 0), run(33, 5, 0)...), 5},
		{append(run(32, 6, 0), run(31, 5, 0)...), 6}, {append(run(31, 1, 1), run(32, -5, 0)...), -5},
	} {
		mustMajority(t, x.l, x.want, api.OK)
	}
}

// P30: half of them is not more than half, and the most there are of one is not
// a majority.
func TestMajoritySplit(t *testing.T) {
	for _, l := range [][]int32{
		nil, {}, run(9, 5, 0)[:0], {1, 2}, {2, 1}, {0, 1}, {1, 2, 3}, {1, 1, 2, 2}, {1, 2, 1, 2}, {1, 2, 2, 1}, {1, 1, 2, 3}, {2, 1, 1, 3}, {0, 0, 1, 2},
		{1, 1, 2, 2, 3}, {1, 1, 2, 3, 4}, {1, -1}, {most, least}, {1, 1, 1, 2, 2, 2}, {1, 1, 1, 2, 3, 4},
		{1, 65537}, {least, 0}, run(64, 0, 1), run(63, 0, 1),
		append(run(32, 6, 0), run(32, 5, 0)...), append(run(31, 6, 0), run(32, 9, 1)...),
	} {
		mustMajority(t, l, 0, api.ErrSplit)
	}
}

// P30.
func TestMajorityLarge(t *testing.T) {
	for _, l := range [][]int32{run(65, 5, 0), run(65, 5, 1), run(66, 0, 0), run(1000, 7, 0)} {
		mustMajority(t, l, 0, api.ErrLarge)
	}
}

// P30: each list of up to six numbers out of four, and longer lists in which one
// is as many times as about half of them.
func TestMajorityEverywhere(t *testing.T) {
	check := func(l []int32) {
		tally := map[int32]int{}
		for _, n := range l {
			tally[n]++
		}
		for n, times := range tally {
			if times > len(l)-times {
				mustMajority(t, l, n, api.OK)
				return
			}
		}
		mustMajority(t, l, 0, api.ErrSplit)
	}
	for many := 0; many <= 6; many++ {
		for code := range 1 << (2 * many) {
			l := make([]int32, many)
			for k := range l {
				l[k] = [4]int32{0, -1, most, least}[code>>(2*k)&3]
			}
			check(l)
		}
	}
	r := rand.New(rand.NewSource(30))
	for many := 1; many <= 64; many++ {
		for times := max(0, many/2-1); times <= min(many, many/2+2); times++ {
			for _, n := range ends {
				l := run(many, 100, 1)
				for k := range times {
					l[k] = n
				}
				r.Shuffle(many, func(a, b int) { l[a], l[b] = l[b], l[a] })
				check(l)
			}
		}
	}
}

// P31.
func TestFar(t *testing.T) {
	for _, x := range []struct {
		l    []int32
		ok   string
		most int32
		want string
	}{
		{[]int32{1, 2, 90, 80}, "1110", 10, "0010"}, {[]int32{1, 2, 90, 80}, "1111", 10, "0011"}, {[]int32{1, 2, 90, 80}, "0011", 10, "0000"},
		{[]int32{1, 2, 90, 80}, "0011", 9, "0010"}, {[]int32{5, 900, 6}, "111", 0, "110"}, {[]int32{5, 900, 6}, "111", 1, "010"},
		// Just so far is not farther, above and below.
		{[]int32{0, 10, 20}, "111", 10, "000"}, {[]int32{0, 10, 20}, "111", 9, "101"}, {[]int32{-1, 10, 20}, "111", 10, "100"}, {[]int32{0, 10, 21}, "111", 10, "001"},
		{[]int32{-20, -10, 0}, "111", 10, "000"}, {[]int32{-21, -10, 1}, "111", 10, "101"},
		// Who is not ok is not far, and does not move the middle.
		{[]int32{9, 0, 0, 1000, -1000}, "11100", 5, "10000"}, {[]int32{1000, 1000, 1000, 3, 4}, "00011", 0, "00001"}, {[]int32{7, 500}, "10", 0, "00"},
		{[]int32{7}, "1", 0, "0"}, {[]int32{least}, "1", 0, "0"}, {[]int32{3, 3, 3}, "111", 0, "000"},
		// Ways that 32 bits don't hold.
		{[]int32{least, most}, "11", most, "01"}, {[]int32{most, least}, "11", most, "10"}, {[]int32{most, least}, "11", 0, "10"},
		{[]int32{least, most, most}, "111", most, "100"}, {[]int32{least, least, most}, "111", most, "001"}, {[]int32{least, 0, most}, "111", most, "100"},
		{[]int32{least + 1, 0, most}, "111", most, "000"}, {[]int32{least + 1, 0, most}, "111", most - 1, "101"},
		{[]int32{least, -1, most}, "111", most, "001"}, {[]int32{least, -1, most - 1}, "111", most, "000"}, {[]int32{least, -2, most}, "111", most, "001"},
	} {
		mustFar(t, x.l, bits(x.ok), x.most, bits(x.want))
	}
	last := all(64, false)
	last[63] = true
	mustFar(t, append(run(63, 4, 0), 5), all(64, true), 0, last)
	mustFar(t, run(64, 4, 1), last, 0, all(64, false))
}

// P31.
func TestFarWrongMost(t *testing.T) {
	for _, m := range []int32{-1, -2, -10, -65536, least + 1, least} {
		for many := 1; many <= 64; many++ {
			mustNotFar(t, run(many, 5, 3), all(many, true), m, api.ErrArg)
		}
		mustNotFar(t, []int32{1, 2, 90, 80}, bits("1110"), m, api.ErrArg)
	}
}

// P31: beside ways in numbers that are wide enough.
func TestFarEverywhere(t *testing.T) {
	check := func(l []int32, ok []bool, m int32) {
		mid, is := middle(l, ok)
		if !is {
			mustNotFar(t, l, ok, m, api.ErrNone)
			return
		}
		want := make([]bool, len(l))
		for k, n := range l {
			way := float64(n) - float64(mid)
			want[k] = ok[k] && math.Abs(way) > float64(m)
		}
		mustFar(t, l, ok, m, want)
	}
	mosts := []int32{0, 1, 2, 3, 9, 65536, most / 2, most/2 + 1, most - 1, most}
	for _, a := range ends {
		for _, b := range ends {
			for _, c := range ends {
				for _, m := range mosts {
					check([]int32{a, b, c}, bits("111"), m)
					check([]int32{a, b, c}, bits("101"), m)
				}
			}
		}
	}
	r := rand.New(rand.NewSource(31))
	for many := 0; many <= 64; many++ {
		for range 50 {
			l, ok := some(r, many)
			check(l, ok, int32(r.Uint32()>>1)>>r.Intn(31))
		}
	}
}

// P31.
func TestSpread(t *testing.T) {
	for _, x := range []struct {
		l    []int32
		want int64
	}{
		{nil, 0}, {[]int32{}, 0}, {run(9, 5, 1)[:0], 0}, {[]int32{7}, 0}, {[]int32{least}, 0}, {[]int32{most}, 0}, {[]int32{5, 5, 5}, 0},
		{[]int32{1, 4}, 3}, {[]int32{4, 1}, 3}, {[]int32{-4, -1}, 3}, {[]int32{-1, -4}, 3}, {[]int32{-4, 1}, 5}, {[]int32{2, 9, 5}, 7}, {[]int32{5, 2, 9}, 7},
		{[]int32{10, 11}, 1}, {[]int32{-10, -11, -12}, 2},
		{[]int32{least, most}, 1<<32 - 1}, {[]int32{most, least}, 1<<32 - 1}, {[]int32{0, most, 5, least, 0}, 1<<32 - 1},
		{[]int32{least, 0}, 1 << 31}, {[]int32{0, most}, 1<<31 - 1}, {[]int32{-1, most}, 1 << 31}, {[]int32{least, -1}, 1<<31 - 1}, {[]int32{least + 1, most}, 1<<32 - 2},
		{run(64, 3, 2), 126}, {run(64, 3, -2), 126}, {run(63, 3, 2), 124},
	} {
		mustSpread(t, x.l, x.want, api.OK)
	}
	for _, l := range [][]int32{run(65, 5, 0), run(65, 5, 1), run(66, 0, 0), run(1000, 7, 1)} {
		mustSpread(t, l, 0, api.ErrLarge)
	}
}

// P31: no two are farther apart, and two are so far.
func TestSpreadEverywhere(t *testing.T) {
	r := rand.New(rand.NewSource(32))
	for many := 0; many <= 64; many++ {
		for range 20 {
			l, _ := some(r, many)
			var want int64
			for _, a := range l {
				for _, b := range l {
					want = max(want, int64(a)-int64(b))
				}
			}
			mustSpread(t, l, want, api.OK)
		}
	}
}

// P2: what is handed in stays, the memory behind the lists too, and what is told
// again is the same, whatever was asked between.
func TestNothingIsChanged(t *testing.T) {
	r := rand.New(rand.NewSource(2))
	for _, many := range []int{0, 1, 2, 3, 4, 9, 63, 64, 65} {
		for _, m := range []int32{-1, 0, 5} {
			l, ok := some(r, many+8)
			wasList, wasOk := slices.Clone(l), slices.Clone(ok)
			mid, e1 := Mid(l[:many], ok[:many])
			major, e2 := Majority(l[:many])
			far, e3 := Far(l[:many], ok[:many], m)
			spread, e4 := Spread(l[:many])
			Mid([]int32{1, 2, 3}, bits("111"))
			Far([]int32{1, 2, 3}, bits("111"), 0)
			if !slices.Equal(l, wasList) || !slices.Equal(ok, wasOk) {
				t.Errorf("a list of %d was changed", many)
			}
			mustMid(t, l[:many], ok[:many], mid, e1)
			mustMajority(t, l[:many], major, e2)
			if again, e := Far(l[:many], ok[:many], m); !slices.Equal(again, far) || e != e3 {
				t.Errorf("Far of %d told %v, %d and then %v, %d", many, far, e3, again, e)
			}
			mustSpread(t, l[:many], spread, e4)
		}
	}
}

// P2: Far tells new memory, that behind it too.
func TestFarIsNew(t *testing.T) {
	for _, many := range []int{1, 2, 3, 9, 63, 64} {
		l, ok := run(many, 5, 7), all(many+8, true)
		was := slices.Clone(ok)
		one, _ := Far(l, ok[:many], 9)
		other, _ := Far(l, ok[:many], 9)
		want := slices.Clone(other)
		one = one[:cap(one)]
		for k := range one {
			one[k] = !one[k]
		}
		if !slices.Equal(ok, was) {
			t.Errorf("Far of %d shares memory with what was handed in", many)
		}
		if !slices.Equal(other, want) {
			t.Errorf("Far of %d shares memory with what it told ahead of it", many)
		}
	}
}
