package log

import (
	"math"
	"math/rand"
	"regexp"
	"slices"
	"strconv"
	"strings"
	"testing"

	"steadyhand/api"
)

type entryList = []api.Entry

// far are numbers that lie in the bounds only in their lower bits, and the ends of
// the type.
var far = []int{
	math.MinInt, math.MinInt + 1, -1 << 32, -1<<32 + 1, -1<<32 + 4, 1 - 1<<16, 4 - 1<<8, -10000, -2,
	1<<31 - 1, 1 << 31, 1<<31 + 1, 1 << 32, 1<<32 + 1, 1<<32 + 4, 1<<32 + 20, 1<<48 + 3, math.MaxInt - 1, math.MaxInt,
}

// farMany are so for Many.
var farMany = append([]int{1 << 16, 1<<16 + 1, 1<<16 + 4, 1<<16 + 20, 1 << 20, 1<<30 + 1}, far...)

// farSmall are so for Lane and Code.
var farSmall = append([]int{1 << 8, 1<<8 + 1, 1<<8 + 4, 1<<8 + 20}, farMany...)

// someRight are entries at the bounds and within them.
func someRight() entryList {
	var l entryList
	for _, frame := range []int{0, 1, 77, 1<<30 - 1, 1 << 30} {
		for lane := range 5 {
			for _, code := range []int{1, 2, 10, 19, 20} {
				for _, many := range []int{1, 2, 10, 9998, 9999} {
					l = append(l, api.Entry{Frame: frame, Lane: lane, Code: code, Many: many})
				}
			}
		}
	}
	return l
}

// someWrong are entries of which one number at least is out of its bounds.
func someWrong() entryList {
	l := entryList{{}, {Frame: -1, Lane: 5, Code: 21, Many: 10000}, {Frame: 1<<30 + 1, Lane: -1}}
	for _, n := range append([]int{-1, 1<<30 + 1}, far...) {
		l = append(l, api.Entry{Frame: n, Lane: 2, Code: 3, Many: 4})
	}
	for _, n := range append([]int{-1, 5, 6}, farSmall...) {
		l = append(l, api.Entry{Frame: 9, Lane: n, Code: 3, Many: 4})
	}
	for _, n := range append([]int{-1, 0, 21, 22}, farSmall...) {
		l = append(l, api.Entry{Frame: 9, Lane: 2, Code: n, Many: 4})
	}
	for _, n := range append([]int{-1, 0, 10000, 10001}, farMany...) {
		l = append(l, api.Entry{Frame: 9, Lane: 2, Code: 3, Many: n})
	}
	return l
}

// run is a right log of so many entries, from that frame on; none has Lane 4 and
// Code 1.
func run(many, frame int) entryList {
	l := make(entryList, many)
	for k := range l {
		l[k] = api.Entry{Frame: frame + k/2, Lane: k % 5, Code: 1 + k%20, Many: 1 + k}
	}
	return l
}

// someLog is a right one, drawn.
func someLog(r *rand.Rand, many int) entryList {
	var l entryList
	frame := r.Intn(3)
	for len(l) < many {
		x := api.Entry{Frame: frame, Lane: r.Intn(5), Code: 1 + r.Intn(20), Many: 1 + r.Intn(9999)}
		if n := len(l); n > 0 && l[n-1].Lane == x.Lane && l[n-1].Code == x.Code {
			continue
		}
		l = append(l, x)
		frame += r.Intn(2) * r.Intn(1<<24)
	}
	return l
}

func mustCheck(t *testing.T, l entryList, want api.Errno) {
	t.Helper()
	if e := Check(l); e != want {
		t.Fatalf("Check(%v) = %d, want %d", l, e, want)
	}
}

func mustPut(t *testing.T, l entryList, frame, lane, code int, want entryList) {
	t.Helper()
	if got, e := Put(l, frame, lane, code); !slices.Equal(got, want) || e != api.OK {
		t.Fatalf("Put(%v, %d, %d, %d) = %v, %d, want %v, OK", l, frame, lane, code, got, e, want)
	}
}

// mustNotPut tells nothing beside the error.
func mustNotPut(t *testing.T, l entryList, frame, lane, code int, want api.Errno) {
	t.Helper()
	if got, e := Put(l, frame, lane, code); len(got) != 0 || e != want {
		t.Fatalf("Put(%v, %d, %d, %d) = %v, %d, want nothing, %d", l, frame, lane, code, got, e, want)
	}
}

func mustText(t *testing.T, l entryList, want string) {
	t.Helper()
	if got, e := Text(l); got != want || e != api.OK {
		t.Fatalf("Text(%v) = %q, %d, want %q, OK", l, got, e, want)
	}
}

func mustRead(t *testing.T, s string, want entryList) {
	t.Helper()
	if got, e := Read(s); !slices.Equal(got, want) || e != api.OK {
		t.Fatalf("Read(%q) = %v, %d, want %v, OK", s, got, e, want)
	}
}

// mustNotRead tells nothing beside the error.
func mustNotRead(t *testing.T, s string, want api.Errno) {
	t.Helper()
	if got, e := Read(s); len(got) != 0 || e != want {
		t.Fatalf("Read(%q) = %v, %d, want nothing, %d", s, got, e, want)
	}
}

// mustBeWrong with each call, whatever else is wrong, and nothing is told beside it.
func mustBeWrong(t *testing.T, l entryList, want api.Errno) {
	t.Helper()
	mustCheck(t, l, want)
	for _, frame := range []int{-1, 0, 9, 1 << 30, 1<<30 + 1} {
		for _, lane := range []int{-1, 2, 5} {
			for _, code := range []int{0, 3, 21} {
				mustNotPut(t, l, frame, lane, code, want)
			}
		}
	}
	if s, e := Text(l); s != "" || e != want {
		t.Fatalf("Text(%v) = %q, %d, want nothing, %d", l, s, e, want)
	}
}

// The document's numbers.
func TestNumbers(t *testing.T) {
	if api.MaxFrame != 1<<30 || api.Lanes != 4 || api.MaxCode != 20 || api.MaxMany != 9999 || api.MaxLog != 32 || api.MaxText != 4095 {
		t.Error(api.MaxFrame, api.Lanes, api.MaxCode, api.MaxMany, api.MaxLog, api.MaxText)
	}
}

// P58: nothing, one entry within the bounds, and several.
func TestCheck(t *testing.T) {
	mustCheck(t, nil, api.OK)
	mustCheck(t, entryList{}, api.OK)
	for _, x := range someRight() {
		mustCheck(t, entryList{x}, api.OK)
	}
	for many := range 33 {
		mustCheck(t, run(many, 0), api.OK)
		mustCheck(t, run(many, 1<<30-15), api.OK)
	}
	// Another Lane or another Code will do, in one frame or not.
	x := api.Entry{Frame: 9, Lane: 2, Code: 3, Many: 4}
	for lane := range 5 {
		for code := 1; code <= 20; code++ {
			for _, frame := range []int{9, 10, 1 << 30} {
				y := api.Entry{Frame: frame, Lane: lane, Code: code, Many: 4}
				want := api.OK
				if lane == 2 && code == 3 {
					want = api.ErrForm
				}
				mustCheck(t, entryList{x, y}, want)
			}
		}
	}
	// What is alike may come again behind something else.
	mustCheck(t, entryList{x, {Frame: 9, Lane: 2, Code: 4, Many: 4}, x}, api.OK)
	mustCheck(t, entryList{x, {Frame: 9, Lane: 3, Code: 3, Many: 4}, x, {Frame: 9, Lane: 3, Code: 3, Many: 4}}, api.OK)
}

// P58: ErrArg of an entry that is not right, at each place; P59 and P60 tell Check's
// error.
func TestCheckArg(t *testing.T) {
	for _, x := range someWrong() {
		mustBeWrong(t, entryList{x}, api.ErrArg)
		for _, k := range []int{0, 1, 4, 31} {
			l := run(32, 9)
			l[k] = x
			mustBeWrong(t, l, api.ErrArg)
			mustBeWrong(t, l[:k+1], api.ErrArg)
		}
	}
}

// P58: ErrForm of an entry that may not stand behind the one ahead, at each place.
func TestCheckForm(t *testing.T) {
	for k := 1; k < 32; k++ {
		l := run(32, 1000)
		for _, frame := range []int{0, 1, l[k-1].Frame - 1} {
			x := slices.Clone(l)
			x[k].Frame = frame
			mustBeWrong(t, x, api.ErrForm)
			mustBeWrong(t, x[:k+1], api.ErrForm)
		}
		for _, many := range []int{1, l[k-1].Many, l[k].Many, 9999} {
			x := slices.Clone(l)
			x[k].Lane, x[k].Code, x[k].Many = x[k-1].Lane, x[k-1].Code, many
			mustBeWrong(t, x, api.ErrForm)
			mustBeWrong(t, x[:k+1], api.ErrForm)
		}
	}
	mustBeWrong(t, entryList{{Frame: 1 << 30, Code: 1, Many: 1}, {Frame: 1<<30 - 1, Code: 2, Many: 1}}, api.ErrForm)
	mustBeWrong(t, entryList{{Frame: 3, Lane: 4, Code: 20, Many: 9999}, {Frame: 4, Lane: 4, Code: 20, Many: 9999}}, api.ErrForm)
}

// P58: ErrLarge of more than MaxLog entries, whatever they are.
func TestCheckLarge(t *testing.T) {
	mustCheck(t, run(32, 0), api.OK)
	for _, many := range []int{33, 34, 40, 64, 257, 1000, 65536, 65537} {
		mustBeWrong(t, run(many, 0), api.ErrLarge)
		mustBeWrong(t, make(entryList, many), api.ErrLarge)
		mustBeWrong(t, slices.Repeat(entryList{{Code: 1, Many: 1}}, many), api.ErrLarge)
	}
}

// P58: entry by entry, so that what is wrong with the first one is told, and of one
// that is wrong twice ErrArg.
func TestCheckFirst(t *testing.T) {
	right := api.Entry{Frame: 9, Lane: 2, Code: 3, Many: 4}
	below := api.Entry{Frame: 8, Lane: 1, Code: 3, Many: 4}
	wrong := api.Entry{Frame: 9, Lane: 5, Code: 3, Many: 4}
	mustBeWrong(t, entryList{right, below, wrong}, api.ErrForm)
	mustBeWrong(t, entryList{right, right, wrong, wrong}, api.ErrForm)
	mustBeWrong(t, entryList{right, wrong, below, below}, api.ErrArg)
	mustBeWrong(t, entryList{wrong, wrong}, api.ErrArg)
	mustBeWrong(t, entryList{right, {Frame: 8, Lane: 5, Code: 3, Many: 4}}, api.ErrArg)
	mustBeWrong(t, entryList{right, {Frame: 9, Lane: 2, Code: 3, Many: 0}}, api.ErrArg)
	mustBeWrong(t, entryList{right, {Frame: -1, Lane: 1, Code: 3, Many: 4}}, api.ErrArg)
}

// P58: drawn entries of few numbers, beside a second way.
func TestCheckEverywhere(t *testing.T) {
	r := rand.New(rand.NewSource(58))
	frames, lanes, codes, manys := []int{0, 1, 1, 2, 2, 2, 3, 3, 3, 1 << 30}, []int{0, 3, 4}, []int{1, 2, 20}, []int{1, 9999}
	counts := map[api.Errno]int{}
	for range 200000 {
		l := make(entryList, r.Intn(6))
		for k := range l {
			l[k] = api.Entry{Frame: frames[r.Intn(len(frames))], Lane: lanes[r.Intn(3)], Code: codes[r.Intn(3)], Many: manys[r.Intn(2)]}
			if r.Intn(12) == 0 {
				l[k] = someWrong()[r.Intn(len(someWrong()))]
			}
		}
		want := checked(l)
		mustCheck(t, l, want)
		counts[want]++
	}
	if counts[api.OK] < 5000 || counts[api.ErrArg] < 5000 || counts[api.ErrForm] < 5000 {
		t.Error(counts)
	}
}

// checked is what is wrong with the shortest piece from the front that is not right.
func checked(l entryList) api.Errno {
	for end := 1; end <= len(l); end++ {
		x := l[end-1]
		switch {
		case x.Frame < 0, x.Frame > 1073741824, x.Lane < 0, x.Lane > 4, x.Code < 1, x.Code > 20, x.Many < 1, x.Many > 9999:
			return api.ErrArg
		case end == 1:
		case x.Frame < l[end-2].Frame, [2]int{x.Lane, x.Code} == [2]int{l[end-2].Lane, l[end-2].Code}:
			return api.ErrForm
		}
	}
	return api.OK
}

// P59: a new entry is put behind the others.
func TestPutNew(t *testing.T) {
	one := entryList{{Frame: 5, Lane: 0, Code: 2, Many: 1}}
	mustPut(t, nil, 5, 0, 2, one)
	mustPut(t, entryList{}, 5, 0, 2, one)
	mustPut(t, one, 5, 1, 2, entryList{one[0], {Frame: 5, Lane: 1, Code: 2, Many: 1}})
	mustPut(t, one, 5, 0, 3, entryList{one[0], {Frame: 5, Lane: 0, Code: 3, Many: 1}})
	mustPut(t, one, 6, 4, 20, entryList{one[0], {Frame: 6, Lane: 4, Code: 20, Many: 1}})
	mustPut(t, one, 1<<30, 3, 1, entryList{one[0], {Frame: 1 << 30, Lane: 3, Code: 1, Many: 1}})
	// What is alike, but not the last one, counts for nothing.
	two := entryList{{Frame: 5, Lane: 0, Code: 2, Many: 7}, {Frame: 5, Lane: 1, Code: 2, Many: 1}}
	mustPut(t, two, 5, 0, 2, append(slices.Clone(two), api.Entry{Frame: 5, Lane: 0, Code: 2, Many: 1}))
	for _, x := range someRight() {
		if x.Many == 1 {
			mustPut(t, nil, x.Frame, x.Lane, x.Code, entryList{x})
		}
	}
}

// P59: what is as the last one makes that one more, at most MaxMany; its Frame stays
// the first.
func TestPutAgain(t *testing.T) {
	for many := 1; many <= 9999; many++ {
		for _, frame := range []int{5, 6, 1 << 30} {
			l := entryList{{Frame: 1, Lane: 1, Code: 2, Many: 3}, {Frame: 5, Lane: 4, Code: 20, Many: many}}
			mustPut(t, l, frame, 4, 20, entryList{l[0], {Frame: 5, Lane: 4, Code: 20, Many: min(many+1, 9999)}})
		}
	}
	for many := 1; many <= 32; many++ {
		l := run(many, 9)
		last := l[many-1]
		want := slices.Clone(l)
		want[many-1].Many++
		mustPut(t, l, last.Frame, last.Lane, last.Code, want)
		mustPut(t, l, 1<<30, last.Lane, last.Code, want)
	}
}

// P59: of the others only the last 31 stay.
func TestPutFull(t *testing.T) {
	x := api.Entry{Frame: 99, Lane: 4, Code: 1, Many: 1}
	for many := range 33 {
		l := run(many, 9)
		others := l
		if many == 32 {
			others = l[1:]
		}
		mustPut(t, l, 99, 4, 1, append(slices.Clone(others), x))
	}
	var l entryList
	for k := range 100 {
		l, _ = Put(l, k, k%5, 1)
		if len(l) != min(k+1, 32) || l[0].Frame != max(0, k-31) || l[len(l)-1].Frame != k {
			t.Fatal(k, l)
		}
		mustCheck(t, l, api.OK)
	}
}

// P59: ErrArg of what makes no right entry, ahead of ErrStale, and also where it
// would only be counted.
func TestPutArg(t *testing.T) {
	logs := []entryList{nil, {{Frame: 0, Lane: 2, Code: 3, Many: 1}}, {{Frame: 9, Lane: 2, Code: 3, Many: 1}}, {{Frame: 1 << 30, Lane: 0, Code: 1, Many: 9999}}, run(32, 50)}
	for _, l := range logs {
		for _, n := range append([]int{-1, 1<<30 + 1}, far...) {
			mustNotPut(t, l, n, 2, 3, api.ErrArg)
		}
		for _, n := range append([]int{-1, 5, 6}, farSmall...) {
			mustNotPut(t, l, 9, n, 3, api.ErrArg)
		}
		for _, n := range append([]int{-1, 0, 21, 22}, farSmall...) {
			mustNotPut(t, l, 9, 2, n, api.ErrArg)
		}
	}
}

// P59: ErrStale of a frame ahead of the last entry's, also of what is as that one.
func TestPutStale(t *testing.T) {
	for _, last := range []int{1, 2, 9, 1<<30 - 1, 1 << 30} {
		l := entryList{{Frame: 0, Lane: 1, Code: 2, Many: 3}, {Frame: last, Lane: 2, Code: 3, Many: 4}}
		for _, frame := range []int{0, last / 2, last - 1} {
			mustNotPut(t, l, frame, 2, 3, api.ErrStale)
			mustNotPut(t, l, frame, 1, 2, api.ErrStale)
			mustNotPut(t, l, frame, 4, 20, api.ErrStale)
		}
		mustPut(t, l, last, 2, 3, entryList{l[0], {Frame: last, Lane: 2, Code: 3, Many: 5}})
	}
	mustNotPut(t, run(32, 50), 49, 4, 1, api.ErrStale)
	mustNotPut(t, run(32, 50), 64, 4, 1, api.ErrStale)
}

// P59: long runs of drawn notes, beside all that was noted, counted at the end.
func TestPutEverywhere(t *testing.T) {
	r := rand.New(rand.NewSource(59))
	for _, kinds := range []int{1, 2, 5} {
		for range 40 {
			var l, all entryList
			frame := 0
			for range 300 {
				frame += r.Intn(2)
				lane, code := r.Intn(kinds), 1+r.Intn(kinds)
				all = append(all, api.Entry{Frame: frame, Lane: lane, Code: code})
				mustPut(t, l, frame, lane, code, counted(all))
				l = counted(all)
				mustCheck(t, l, api.OK)
			}
		}
	}
}

// counted is what a log comes to of all that was noted, each by itself.
func counted(all entryList) entryList {
	var l entryList
	for k := 0; k < len(all); {
		x := all[k]
		for ; k < len(all) && all[k].Lane == x.Lane && all[k].Code == x.Code; k++ {
			x.Many++
		}
		l = append(l, x)
	}
	return l[max(0, len(l)-32):]
}

// P2: Put changes no log, and shares no memory with it, spare memory included; so
// also where there is nothing to change.
func TestPutIsNew(t *testing.T) {
	for many := range 33 {
		l := run(many, 9)
		mustPutNew(t, l, 4, 1)
		if many == 0 {
			continue
		}
		last := &l[many-1]
		mustPutNew(t, l, last.Lane, last.Code)
		last.Many = 9999
		mustPutNew(t, l, last.Lane, last.Code)
		mustPutNew(t, l, 4, 1)
	}
}

func mustPutNew(t *testing.T, l entryList, lane, code int) {
	t.Helper()
	handed := make(entryList, len(l), 80)
	copy(handed, l)
	first, _ := Put(handed, 99, lane, code)
	second, _ := Put(handed, 99, lane, code)
	want := slices.Clone(second)
	spoil(first)
	if !slices.Equal(handed, l) || !slices.Equal(second, want) {
		t.Fatal(handed, second)
	}
	if slices.ContainsFunc(handed[len(l):80], func(x api.Entry) bool { return x != api.Entry{} }) {
		t.Fatal(handed[:80])
	}
	spoil(handed)
	if !slices.Equal(second, want) {
		t.Fatal(second)
	}
	mustPut(t, l, 99, lane, code, want)
}

// spoil writes over all of l, its spare memory too.
func spoil(l entryList) {
	l = l[:cap(l)]
	for k := range l {
		l[k] = api.Entry{Frame: -7, Lane: -7, Code: -7, Many: -7}
	}
}

// P60: numbers in digits, without noughts ahead, a byte 10 behind each entry.
func TestText(t *testing.T) {
	mustText(t, nil, "")
	mustText(t, entryList{}, "")
	mustText(t, entryList{{Frame: 10, Lane: 4, Code: 3, Many: 2}}, "10:4:3x2\n")
	mustText(t, entryList{{Frame: 5, Lane: 0, Code: 2, Many: 2}, {Frame: 6, Lane: 4, Code: 3, Many: 1}}, "5:0:2x2\n6:4:3x1\n")
	mustText(t, entryList{{Frame: 0, Lane: 0, Code: 1, Many: 1}}, "0:0:1x1\n")
	mustText(t, entryList{{Frame: 1 << 30, Lane: 4, Code: 20, Many: 9999}}, "1073741824:4:20x9999\n")
	mustText(t, entryList{{Frame: 100, Lane: 3, Code: 10, Many: 1000}, {Frame: 100, Lane: 2, Code: 10, Many: 10}}, "100:3:10x1000\n100:2:10x10\n")
	for _, x := range someRight() {
		digits := []string{strconv.Itoa(x.Frame), strconv.Itoa(x.Lane), strconv.Itoa(x.Code)}
		mustText(t, entryList{x}, strings.Join(digits, ":")+"x"+strconv.Itoa(x.Many)+"\n")
	}
	var long entryList
	for k := range 32 {
		long = append(long, api.Entry{Frame: 1 << 30, Lane: 4, Code: 20 - k%2, Many: 9999})
	}
	mustText(t, long, strings.Repeat("1073741824:4:20x9999\n1073741824:4:19x9999\n", 16))
}

// P60: what Text writes Read reads, of any log.
func TestTextAndRead(t *testing.T) {
	r := rand.New(rand.NewSource(60))
	for range 200 {
		for many := range 33 {
			l := someLog(r, many)
			before := slices.Clone(l)
			s, e := Text(l)
			if e != api.OK || strings.Count(s, "\n") != many || !slices.Equal(l, before) {
				t.Fatalf("Text(%v) = %q, %d", l, s, e)
			}
			mustRead(t, s, l)
		}
	}
}

// P60: lines of the right form.
func TestRead(t *testing.T) {
	mustRead(t, "", nil)
	mustRead(t, "10:4:3x2\n", entryList{{Frame: 10, Lane: 4, Code: 3, Many: 2}})
	mustRead(t, "5:0:2x2\n6:4:3x1\n", entryList{{Frame: 5, Lane: 0, Code: 2, Many: 2}, {Frame: 6, Lane: 4, Code: 3, Many: 1}})
	mustRead(t, "0:0:1x1\n", entryList{{Frame: 0, Lane: 0, Code: 1, Many: 1}})
	mustRead(t, "1073741824:4:20x9999\n", entryList{{Frame: 1 << 30, Lane: 4, Code: 20, Many: 9999}})
	mustRead(t, strings.Repeat("7:4:20x9999\n7:0:1x1000\n", 16), slices.Repeat(entryList{{Frame: 7, Lane: 4, Code: 20, Many: 9999}, {Frame: 7, Lane: 0, Code: 1, Many: 1000}}, 16))
}

// P60: ErrSyntax of what is not of that form, though the rest is, ahead of Check's
// error.
func TestReadSyntax(t *testing.T) {
	for _, s := range []string{
		"\n", " ", "x", ":", "::x\n", "5", "5:0", "5:0:2", "5:0:2x", "5:0:2x2", "5:0:2x\n", "5:0:x2\n", "5::2x2\n", ":0:2x2\n",
		"5:0:2:2\n", "5x0x2x2\n", "5x0:2:2\n", "5:0x2:2\n", "5:0:2x2x2\n", "5:0:2:2x2\n", "5:0:2X2\n", "5;0;2x2\n", "0:2x2\n", "5:0:22\n",
		"05:0:2x2\n", "5:00:2x2\n", "5:0:02x2\n", "5:0:2x02\n", "00:0:2x2\n", "5:0:2x00\n", "0000000000:0:2x2\n",
		"+5:0:2x2\n", "-5:0:2x2\n", "5:-0:2x2\n", "-0:0:2x2\n", "5:0:+2x2\n", "5:0:2x-2\n", "5_0:0:2x2\n", "0x5:0:2x2\n", "5e1:0:2x2\n", "5.0:0:2x2\n", "f:0:2x2\n",
		" 5:0:2x2\n", "5 :0:2x2\n", "5: 0:2x2\n", "5:0:2x2 \n", "5:0:2x2\r\n", "5:0:2x2\t\n", "\ufeff5:0:2x2\n", "\u0665:0:2x2\n", "\uff15:0:2x2\n", "5:0:2x2\x00\n", "\x805:0:2x2\n",
		"5:0:2x2\n\n", "\n5:0:2x2\n", "5:0:2x2\n\n6:0:3x2\n", "5:0:2x2\n6:0:3x2", "5:0:2x26:0:3x2\n", "5:0:2x2\n6:0:3x2\n ", "5:0:2x2;6:0:3x2;", "5:0:2x2\n6",
		"12345678901:0:2x2\n", "5:12345678901:2x2\n", "5:0:12345678901x2\n", "5:0:2x12345678901\n", "18446744073709551621:0:2x2\n", "340282366920938463463374607431768211461:0:2x2\n",
		// Wrong entries ahead of it, or behind it.
		"5:5:2x2\nq\n", "q\n5:5:2x2\n", "6:0:2x2\n5:0:2x2\n7:0:2x2", "5:9:99x00\n", strings.Repeat("5:0:2x2\n", 40) + "5", "5" + strings.Repeat("\n5:0:2x2", 40),
		strings.Repeat("9", 4095), strings.Repeat(" ", 4095), strings.Repeat("\n", 4095), strings.Repeat("5:0:2x2\n", 511) + "5:0:2x2",
	} {
		mustNotRead(t, s, api.ErrSyntax)
	}
}

// P60: a number has one to ten digits, whatever it is, so that ten of them are only
// out of bounds.
func TestReadDigits(t *testing.T) {
	for digits := range 50 {
		long := strings.Repeat("9", digits)
		for _, s := range []string{long + ":0:2x2\n", "5:" + long + ":2x2\n", "5:0:" + long + "x2\n", "5:0:2x" + long + "\n"} {
			_, e := Read(s)
			if right := digits >= 1 && digits <= 10; right == (e == api.ErrSyntax) {
				t.Fatalf("Read(%q): %d", s, e)
			}
		}
		// Not even noughts may be more.
		if digits > 1 {
			mustNotRead(t, strings.Repeat("0", digits)+":0:2x2\n", api.ErrSyntax)
			mustNotRead(t, "5:0:2x"+strings.Repeat("0", digits-1)+"2\n", api.ErrSyntax)
		}
	}
	for _, s := range []string{"9999999999", "1073741825", "2147483648", "4294967296", "4294967301", "8589934597"} {
		mustNotRead(t, s+":0:2x2\n", api.ErrArg)
		mustNotRead(t, "5:"+s+":2x2\n", api.ErrArg)
		mustNotRead(t, "5:0:"+s+"x2\n", api.ErrArg)
		mustNotRead(t, "5:0:2x"+s+"\n", api.ErrArg)
	}
	for n := range 20001 {
		s := strconv.Itoa(n)
		mustRead(t, s+":0:2x2\n", entryList{{Frame: n, Code: 2, Many: 2}})
		readOrArg(t, "5:"+s+":2x2\n", n <= 4, api.Entry{Frame: 5, Lane: n, Code: 2, Many: 2})
		readOrArg(t, "5:0:"+s+"x2\n", n >= 1 && n <= 20, api.Entry{Frame: 5, Code: n, Many: 2})
		readOrArg(t, "5:0:2x"+s+"\n", n >= 1 && n <= 9999, api.Entry{Frame: 5, Code: 2, Many: n})
	}
}

func readOrArg(t *testing.T, s string, right bool, x api.Entry) {
	t.Helper()
	if right {
		mustRead(t, s, entryList{x})
	} else {
		mustNotRead(t, s, api.ErrArg)
	}
}

// P60: Check's error of entries in a right form, and nothing beside it.
func TestReadCheck(t *testing.T) {
	mustNotRead(t, "5:0:2x0\n", api.ErrArg)
	mustNotRead(t, "5:0:0x1\n", api.ErrArg)
	mustNotRead(t, "5:5:2x1\n", api.ErrArg)
	mustNotRead(t, "5:0:21x1\n", api.ErrArg)
	mustNotRead(t, "5:0:2x10000\n", api.ErrArg)
	mustNotRead(t, "6:0:2x1\n5:1:2x1\n", api.ErrForm)
	mustNotRead(t, "5:0:2x1\n5:0:2x1\n", api.ErrForm)
	mustNotRead(t, "5:0:2x1\n6:0:2x2\n", api.ErrForm)
	mustNotRead(t, "6:0:2x1\n5:1:2x1\n6:5:2x1\n", api.ErrForm)
	mustNotRead(t, "6:0:2x1\n5:5:2x1\n5:0:2x1\n", api.ErrArg)
	for many := 33; many <= 511; many++ {
		mustNotRead(t, strings.Repeat("5:0:2x2\n", many), api.ErrLarge)
	}
	mustNotRead(t, strings.Repeat("5:0:2x2\n5:1:2x2\n", 16)+"5:0:2x2\n", api.ErrLarge)
	// Just as long as a text may be.
	mustNotRead(t, strings.Repeat("5:0:2x2\n", 510)+"12345678:0:2x2\n", api.ErrLarge)
}

// P60: ErrLarge of more than MaxText bytes, whatever they are.
func TestReadLarge(t *testing.T) {
	for _, piece := range []string{"9", " ", "\n", "5:0:2x2\n", "\xff", "5:0:9x0\n"} {
		for _, bytes := range []int{4096, 4097, 5000, 65536, 70000} {
			mustNotRead(t, strings.Repeat(piece, bytes)[:bytes], api.ErrLarge)
		}
	}
	// Bytes are counted, not runes.
	mustNotRead(t, strings.Repeat("\u00e9", 2048), api.ErrLarge)
	mustNotRead(t, strings.Repeat("\u00e9", 2047), api.ErrSyntax)
}

var (
	rightForm = regexp.MustCompile(`\A((0|[1-9][0-9]{0,9}):(0|[1-9][0-9]{0,9}):(0|[1-9][0-9]{0,9})x(0|[1-9][0-9]{0,9})\x0a)*\z`)
	someDigit = regexp.MustCompile(`[0-9]+`)
)

// readAgain is what Read must tell, by the whole text's form, and then its numbers.
func readAgain(s string) (entryList, api.Errno) {
	if len(s) > 4095 {
		return nil, api.ErrLarge
	}
	if !rightForm.MatchString(s) {
		return nil, api.ErrSyntax
	}
	var n []int
	for _, digits := range someDigit.FindAllString(s, -1) {
		m, _ := strconv.ParseInt(digits, 10, 64)
		n = append(n, int(m))
	}
	var l entryList
	for ; len(n) > 0; n = n[4:] {
		l = append(l, api.Entry{Frame: n[0], Lane: n[1], Code: n[2], Many: n[3]})
	}
	if len(l) > 32 {
		return nil, api.ErrLarge
	}
	if e := checked(l); e != api.OK {
		return nil, e
	}
	return l, api.OK
}

func mustReadAsAgain(t *testing.T, s string) api.Errno {
	t.Helper()
	want, wantErr := readAgain(s)
	if got, e := Read(s); !slices.Equal(got, want) || e != wantErr {
		t.Fatalf("Read(%q) = %v, %d, want %v, %d", s, got, e, want, wantErr)
	}
	return wantErr
}

// P60: any byte of a text exchanged, put in or left out, beside a second way.
func TestReadSpoilt(t *testing.T) {
	for _, s := range []string{"5:0:2x2\n", "10:4:3x2\n10:3:20x9999\n1073741824:0:1x1\n", "0:0:1x10\n0:1:1x1\n0:0:10x1\n"} {
		for k := range len(s) + 1 {
			mustReadAsAgain(t, s[:k])
			mustReadAsAgain(t, s[k:])
			for b := range 256 {
				mustReadAsAgain(t, s[:k]+string([]byte{byte(b)})+s[k:])
				if k < len(s) {
					mustReadAsAgain(t, s[:k]+string([]byte{byte(b)})+s[k+1:])
				}
			}
			if k < len(s) {
				mustReadAsAgain(t, s[:k]+s[k+1:])
			}
		}
	}
}

// P60: each text of few bytes, and drawn ones of pieces that a right text is made of,
// beside a second way.
func TestReadEverywhere(t *testing.T) {
	const some = "019:x\n -"
	short := []string{""}
	for range 5 {
		var longer []string
		for _, s := range short {
			mustReadAsAgain(t, s)
			for _, b := range some {
				longer = append(longer, s+string(b))
			}
		}
		short = longer
	}
	r := rand.New(rand.NewSource(160))
	numbers := []string{"0", "1", "1", "2", "2", "3", "4", "4", "5", "20", "21", "9999", "10000", "1073741824", "1073741825", "9999999999"}
	odd := []string{"", "00", "01", "-1", "+1", "10000000000", ":", "x", "\n", "1:", "1x", "1\n", " "}
	counts := map[api.Errno]int{}
	for range 200000 {
		var s strings.Builder
		for range r.Intn(4) {
			for _, end := range []string{":", ":", "x", "\n"} {
				if r.Intn(40) == 0 {
					s.WriteString(odd[r.Intn(len(odd))])
				} else {
					s.WriteString(numbers[r.Intn(len(numbers))])
				}
				s.WriteString(end)
			}
		}
		counts[mustReadAsAgain(t, s.String())]++
	}
	for _, e := range []api.Errno{api.OK, api.ErrArg, api.ErrForm, api.ErrSyntax} {
		if counts[e] < 500 {
			t.Error(counts)
		}
	}
}

// P2: each list that Read tells is new memory, spare memory included.
func TestReadIsNew(t *testing.T) {
	for many := range 33 {
		want := run(many, 9)
		s, _ := Text(want)
		first, _ := Read(s)
		second, _ := Read(s)
		spoil(first)
		if !slices.Equal(second, want) {
			t.Fatal(second)
		}
		second = append(second, api.Entry{Frame: -8})
		if slices.Contains(first[:cap(first)], api.Entry{Frame: -8}) {
			t.Fatal(first, second)
		}
		mustRead(t, s, want)
	}
}

// P2: what is told hangs on nothing that was told before, and no log is changed by
// being looked at, the memory behind it included.
func TestNothingIsKept(t *testing.T) {
	l := make(entryList, 20, 40)
	copy(l, run(20, 9))
	all := slices.Clone(l[:40])
	s, _ := Text(l)
	for range 3 {
		mustCheck(t, l, api.OK)
		mustText(t, l, s)
		mustRead(t, s, l)
		mustNotPut(t, l, 9, 9, 9, api.ErrArg)
		mustNotPut(t, l, 8, 0, 9, api.ErrStale)
		mustPut(t, l, 99, 4, 1, append(slices.Clone(l), api.Entry{Frame: 99, Lane: 4, Code: 1, Many: 1}))
		mustNotRead(t, s+"q", api.ErrSyntax)
		if !slices.Equal(l[:40], all) {
			t.Fatal(l[:40])
		}
	}
}
