package link

import (
	"math"
	"math/rand"
	"slices"
	"strings"
	"testing"

	"steadyhand/api"
	"steadyhand/crc"
	"steadyhand/frame"
)

// far are numbers that lie in the bounds only in their lowest bits, and the ends of
// the type.
var far = []int{
	math.MinInt, math.MinInt + 1, -1 << 32, -1<<32 + 5, -65536, -256, -255, -1,
	1 << 16, 1<<16 + 5, 1<<31 - 1, 1 << 31, 1 << 32, 1<<32 + 5, 1<<32 + 100, math.MaxInt - 1, math.MaxInt,
}

// spoilts are texts that are no frame, and what frame.Read must have against them,
// their sums reckoned elsewhere.
var spoilts = []struct {
	s    string
	want api.Errno
}{
	{"", api.ErrShort},
	{"\x10", api.ErrShort},
	{"abc", api.ErrSum},
	{"\x10\x00\x00\x8f\xfe", api.ErrSum},
	{"\x10\x00\x01\x00\x00\x00\x01\x6c\xe4", api.ErrSum},
	{strings.Repeat("x", 4095), api.ErrSum},
	{strings.Repeat("x", 4096), api.ErrLarge},
	// No head: the sums of no bytes and of one.
	{"\xff\xff", api.ErrShort},
	{"A\xb9\x15", api.ErrShort},
}

// made are texts with right sums that frame.Read does not take.
func made(t *testing.T) []struct {
	s    string
	want api.Errno
} {
	return []struct {
		s    string
		want api.Errno
	}{
		{put(t, "\x10\x09"), api.ErrShort},
		{put(t, "\x10\x09\x01"), api.ErrForm},
		{put(t, "\x10\x09\x00z"), api.ErrForm},
		{put(t, "\x14\x09\x00"), api.ErrArg},
		{put(t, "\x00\x09\x00"), api.ErrArg},
		{put(t, "\x33\x09\x01abcd"), api.ErrArg},
		{put(t, "\x10\x09\x09"+strings.Repeat("abcd", 9)), api.ErrLarge},
	}
}

func put(t *testing.T, s string) string {
	t.Helper()
	u, e := crc.Put(s)
	if e != api.OK {
		t.Fatalf("crc.Put(%q) = %d, want OK", s, e)
	}
	return u
}

func pack(t *testing.T, f api.Frame) string {
	t.Helper()
	s, e := frame.Pack(f)
	if e != api.OK {
		t.Fatalf("frame.Pack(%v) = %d, want OK", f, e)
	}
	return s
}

func sameFrame(a, b api.Frame) bool {
	return a.Kind == b.Kind && a.Lane == b.Lane && a.Seq == b.Seq && slices.Equal(a.Words, b.Words)
}

func same(a, b api.Link) bool {
	return sameFrame(a.Last, b.Last) && a.Heard == b.Heard && a.Age == b.Age && a.Bad == b.Bad
}

func mustCheck(t *testing.T, l api.Link, want api.Errno) {
	t.Helper()
	if e := Check(l); e != want {
		t.Errorf("Check(%v) = %d, want %d", l, e, want)
	}
}

func mustHear(t *testing.T, l api.Link, s string, want api.Link, wantErr api.Errno) {
	t.Helper()
	if got, e := Hear(l, s); !same(got, want) || e != wantErr {
		t.Fatalf("Hear(%v, %q) = %v, %d, want %v, %d", l, s, got, e, want, wantErr)
	}
}

func mustTick(t *testing.T, l, want api.Link, wantErr api.Errno) {
	t.Helper()
	if got, e := Tick(l); !same(got, want) || e != wantErr {
		t.Fatalf("Tick(%v) = %v, %d, want %v, %d", l, got, e, want, wantErr)
	}
}

func mustWords(t *testing.T, l api.Link, most int, want []int32, wantErr api.Errno) {
	t.Helper()
	if got, e := Words(l, most); !slices.Equal(got, want) || e != wantErr {
		t.Fatalf("Words(%v, %d) = %v, %d, want %v, %d", l, most, got, e, want, wantErr)
	}
}

// heard is a link that heard a frame with this Seq and these Words.
func heard(seq uint8, age, bad int, words ...int32) api.Link {
	return api.Link{Last: api.Frame{Kind: 2, Lane: 3, Seq: seq, Words: words}, Heard: true, Age: age, Bad: bad}
}

// right are links that Check has nothing against.
func right() []api.Link {
	return []api.Link{
		{},
		{Last: api.Frame{Words: []int32{}}},
		// Empty Words may have memory behind them.
		{Last: api.Frame{Words: make([]int32, 0, 5)}, Bad: 3},
		{Age: 100, Bad: 10000},
		{Age: 7},
		{Heard: true, Last: api.Frame{Kind: 1}},
		{Heard: true, Last: api.Frame{Kind: 1, Words: []int32{}}, Age: 1},
		heard(0, 0, 0),
		heard(255, 100, 10000, 1, 2, 3, 4, 5, 6, 7, 8),
		heard(128, 99, 9999, math.MinInt32, math.MaxInt32),
		heard(1, 1, 1, 0),
	}
}

// wrong are links, and what Check has against them.
func wrong() []struct {
	l    api.Link
	want api.Errno
} {
	nine := make([]int32, 9)
	return []struct {
		l    api.Link
		want api.Errno
	}{
		{api.Link{Age: -1}, api.ErrArg},
		{api.Link{Age: 101}, api.ErrArg},
		{api.Link{Bad: -1}, api.ErrArg},
		{api.Link{Bad: 10001}, api.ErrArg},
		{heard(1, -1, 0, 5), api.ErrArg},
		{heard(1, 101, 0, 5), api.ErrArg},
		{heard(1, 0, -1, 5), api.ErrArg},
		{heard(1, 0, 10001, 5), api.ErrArg},
		{heard(1, 101, 10001, 5), api.ErrArg},
		// Nothing was heard, and yet there is something of a frame.
		{api.Link{Last: api.Frame{Kind: 1}}, api.ErrForm},
		{api.Link{Last: api.Frame{Kind: -1}}, api.ErrForm},
		{api.Link{Last: api.Frame{Kind: 1 << 32}}, api.ErrForm},
		{api.Link{Last: api.Frame{Lane: 1}}, api.ErrForm},
		{api.Link{Last: api.Frame{Lane: -1}}, api.ErrForm},
		{api.Link{Last: api.Frame{Seq: 1}}, api.ErrForm},
		{api.Link{Last: api.Frame{Seq: 255}}, api.ErrForm},
		{api.Link{Last: api.Frame{Words: []int32{0}}}, api.ErrForm},
		{api.Link{Last: api.Frame{Words: nine}}, api.ErrForm},
		{api.Link{Last: api.Frame{Kind: 2, Lane: 3, Seq: 4, Words: []int32{5}}, Age: 6, Bad: 7}, api.ErrForm},
		// Something was heard, and yet it is no frame.
		{api.Link{Heard: true}, api.ErrArg},
		{api.Link{Heard: true, Last: api.Frame{Kind: 3}}, api.ErrArg},
		{api.Link{Heard: true, Last: api.Frame{Kind: 1, Lane: 4}}, api.ErrArg},
		{api.Link{Heard: true, Last: api.Frame{Kind: 1, Lane: -1}}, api.ErrArg},
		{api.Link{Heard: true, Last: api.Frame{Kind: 1, Words: nine}}, api.ErrLarge},
		{api.Link{Heard: true, Last: api.Frame{Kind: 3, Words: nine}}, api.ErrArg},
		// What is told first is the answer.
		{api.Link{Last: api.Frame{Kind: 1}, Age: 101}, api.ErrArg},
		{api.Link{Last: api.Frame{Kind: 1}, Bad: -1}, api.ErrArg},
		{api.Link{Last: api.Frame{Words: nine}, Age: -1}, api.ErrArg},
		{api.Link{Heard: true, Last: api.Frame{Kind: 1, Words: nine}, Age: 101}, api.ErrArg},
		{api.Link{Heard: true, Last: api.Frame{Kind: 1, Words: nine}, Bad: 10001}, api.ErrArg},
	}
}

// P26.
func TestCheck(t *testing.T) {
	for _, l := range right() {
		mustCheck(t, l, api.OK)
	}
	for _, x := range wrong() {
		mustCheck(t, x.l, x.want)
	}
	for _, n := range far {
		for _, l := range []api.Link{{}, heard(9, 0, 0, 5)} {
			aged, bad := l, l
			aged.Age, bad.Bad = n, n
			mustCheck(t, aged, api.ErrArg)
			mustCheck(t, bad, api.ErrArg)
			aged.Bad = n
			mustCheck(t, aged, api.ErrArg)
		}
	}
}

// P26: each Age and each Bad, the right ones and those beside them.
func TestCheckBounds(t *testing.T) {
	for _, l := range []api.Link{{}, heard(9, 0, 0, 5)} {
		for age := -300; age <= 400; age++ {
			for _, bad := range []int{-2, -1, 0, 1, 100, 101, 5000, 9999, 10000, 10001, 10002} {
				l.Age, l.Bad = age, bad
				want := api.OK
				if age < 0 || age > 100 || bad < 0 || bad > 10000 {
					want = api.ErrArg
				}
				mustCheck(t, l, want)
			}
		}
		l.Age = 50
		for bad := -300; bad <= 10300; bad++ {
			l.Bad = bad
			want := api.OK
			if bad < 0 || bad > 10000 {
				want = api.ErrArg
			}
			mustCheck(t, l, want)
		}
	}
}

// P26: with what was heard it is frame.Check's error, without it ErrForm of each
// frame that is not Frame{}.
func TestCheckLast(t *testing.T) {
	for kind := -1; kind <= 4; kind++ {
		for lane := -1; lane <= 5; lane++ {
			for many := range 11 {
				for _, seq := range []uint8{0, 1, 128, 255} {
					f := api.Frame{Kind: kind, Lane: lane, Seq: seq, Words: make([]int32, many)}
					mustCheck(t, api.Link{Last: f, Heard: true}, frame.Check(f))
					want := api.ErrForm
					if kind == 0 && lane == 0 && seq == 0 && many == 0 {
						want = api.OK
					}
					mustCheck(t, api.Link{Last: f}, want)
				}
			}
		}
	}
}

// P26: beside Check's error nothing is told, whatever was said.
func TestWrongLinks(t *testing.T) {
	good := pack(t, api.Frame{Kind: 1, Seq: 77, Words: []int32{7}})
	for _, x := range wrong() {
		for _, s := range []string{good, "", "abc", strings.Repeat("x", 4096)} {
			mustHear(t, x.l, s, api.Link{}, x.want)
		}
		mustTick(t, x.l, api.Link{}, x.want)
		for _, most := range []int{math.MinInt, -1, 0, 100, math.MaxInt} {
			mustWords(t, x.l, most, nil, x.want)
		}
	}
}

// P27: what was heard is told at once, whatever it is, and of whichever lane.
func TestHear(t *testing.T) {
	// Bytes written out, their sums reckoned elsewhere.
	first := api.Link{Last: api.Frame{Kind: 2, Lane: 3, Seq: 9, Words: []int32{-2, 258}}, Heard: true}
	mustHear(t, api.Link{}, "\x23\x09\x02\xff\xff\xff\xfe\x00\x00\x01\x02\x63\xea", first, api.OK)
	mustWords(t, first, 0, []int32{-2, 258}, api.OK)
	first.Age, first.Bad = 5, 6
	second := api.Link{Last: api.Frame{Kind: 2, Lane: 1, Seq: 10, Words: []int32{-1}}, Heard: true, Bad: 6}
	mustHear(t, first, "\x21\x0a\x01\xff\xff\xff\xff\x92\xc5", second, api.OK)
	third := api.Link{Last: api.Frame{Kind: 1, Lane: 2, Seq: 127, Words: []int32{math.MinInt32}}, Heard: true, Bad: 6}
	mustHear(t, second, "\x12\x7f\x01\x80\x00\x00\x00\x51\xa0", third, api.OK)
	// 128 is ahead by 1, 0 ahead of it by 128, and then by 127.
	third.Last.Seq = 128
	stale := third
	stale.Bad = 7
	mustHear(t, third, "\x10\x00\x00\x8f\xff", stale, api.ErrStale)
	third.Last.Seq = 129
	mustHear(t, third, "\x10\x00\x00\x8f\xff", api.Link{Last: api.Frame{Kind: 1}, Heard: true, Bad: 6}, api.OK)
}

// P27: if nothing was heard each number is new, whatever Age is.
func TestHearFirst(t *testing.T) {
	for seq := range 256 {
		for _, l := range []api.Link{{}, {Age: 1}, {Age: 99, Bad: 3}, {Age: 100, Bad: 10000}, {Last: api.Frame{Words: []int32{}}, Bad: 9999}} {
			f := api.Frame{Kind: 1 + seq%2, Lane: seq % 4, Seq: uint8(seq), Words: []int32{int32(seq)}}
			mustHear(t, l, pack(t, f), api.Link{Last: f, Heard: true, Bad: l.Bad}, api.OK)
		}
	}
}

// P27: each number behind each other one, at each Age.
func TestHearEvery(t *testing.T) {
	for seq := range 256 {
		f := api.Frame{Kind: 1, Lane: 2, Seq: uint8(seq), Words: []int32{4, 5}}
		s := pack(t, f)
		for steps := range 256 {
			// As seq goes on by steps from what was heard last.
			last := uint8((seq + 256 - steps) % 256)
			for _, age := range []int{0, 1, 50, 98, 99, 100} {
				l := heard(last, age, 17, 1, 2, 3)
				if age == 100 || steps > 0 && steps < 128 {
					mustHear(t, l, s, api.Link{Last: f, Heard: true, Bad: 17}, api.OK)
					continue
				}
				want := heard(last, age, 18, 1, 2, 3)
				mustHear(t, l, s, want, api.ErrStale)
			}
		}
	}
	for age := range 101 {
		l := heard(200, age, 0, 6)
		f := api.Frame{Kind: 2, Seq: 200}
		if age == 100 {
			mustHear(t, l, pack(t, f), api.Link{Last: f, Heard: true}, api.OK)
			continue
		}
		mustHear(t, l, pack(t, f), heard(200, age, 1, 6), api.ErrStale)
	}
}

// P27: what is no frame counts as Bad, and the rest is as it was.
func TestHearSpoilt(t *testing.T) {
	for _, x := range append(made(t), spoilts...) {
		if _, e := frame.Read(x.s); e != x.want {
			t.Fatalf("frame.Read(%q) = %d, want %d", x.s, e, x.want)
		}
		for _, l := range right() {
			want := l
			if want.Bad < 10000 {
				want.Bad++
			}
			mustHear(t, l, x.s, want, x.want)
		}
	}
}

// P27: Bad goes up to 10000 and stays there; what is good leaves it alone.
func TestHearBad(t *testing.T) {
	s := pack(t, api.Frame{Kind: 1, Seq: 5, Words: []int32{8}})
	for bad := range 10001 {
		more := min(bad+1, 10000)
		mustHear(t, api.Link{Bad: bad, Age: 4}, "abc", api.Link{Bad: more, Age: 4}, api.ErrSum)
		mustHear(t, heard(3, 4, bad, 6), "abc", heard(3, 4, more, 6), api.ErrSum)
		mustHear(t, heard(3, 100, bad, 6), "", heard(3, 100, more, 6), api.ErrShort)
		mustHear(t, heard(5, 4, bad, 6), s, heard(5, 4, more, 6), api.ErrStale)
		want := api.Link{Last: api.Frame{Kind: 1, Seq: 5, Words: []int32{8}}, Heard: true, Bad: bad}
		mustHear(t, heard(4, 4, bad, 6), s, want, api.OK)
		mustHear(t, api.Link{Bad: bad}, s, want, api.OK)
	}
}

// P27: a frame with any one bit turned over is not heard.
func TestHearTurned(t *testing.T) {
	s := pack(t, api.Frame{Kind: 1, Lane: 1, Seq: 40, Words: []int32{1, -2, 3}})
	for k := range 8 * len(s) {
		b := []byte(s)
		b[k/8] ^= 1 << (k % 8)
		mustHear(t, heard(39, 2, 3, 4), string(b), heard(39, 2, 4, 4), api.ErrSum)
		mustHear(t, api.Link{}, string(b), api.Link{Bad: 1}, api.ErrSum)
	}
}

// P28: Age goes up to 100 and stays there, if something was heard.
func TestTick(t *testing.T) {
	for age := range 101 {
		for _, bad := range []int{0, 1, 9999, 10000} {
			mustTick(t, heard(9, age, bad, 5, 6), heard(9, min(age+1, 100), bad, 5, 6), api.OK)
			mustTick(t, api.Link{Age: age, Bad: bad}, api.Link{Age: age, Bad: bad}, api.OK)
		}
	}
	l := heard(255, 0, 2, -1)
	for n := range 300 {
		mustTick(t, l, heard(255, min(n+1, 100), 2, -1), api.OK)
		l, _ = Tick(l)
	}
	mustTick(t, api.Link{Last: api.Frame{Words: []int32{}}}, api.Link{}, api.OK)
}

// P28: the words are told up to the age that is asked for.
func TestWords(t *testing.T) {
	lists := [][]int32{nil, {0}, {7}, {math.MinInt32, math.MaxInt32}, {1, 2, 3, 4, 5, 6, 7, 8}}
	mosts := slices.Clone(far)
	for most := -3; most <= 103; most++ {
		mosts = append(mosts, most)
	}
	for age := range 101 {
		for _, most := range mosts {
			for _, words := range lists {
				l := heard(3, age, 4, words...)
				if most < age {
					mustWords(t, l, most, nil, api.ErrStale)
					continue
				}
				mustWords(t, l, most, words, api.OK)
			}
			// ErrNone comes ahead of ErrStale.
			mustWords(t, api.Link{Age: age, Bad: 2}, most, nil, api.ErrNone)
		}
	}
	if got, e := Words(heard(3, 5, 0, 1, 2), 4); got != nil || e != api.ErrStale {
		t.Errorf("Words of what is stale = %v, %d, want no list, ErrStale", got, e)
	}
	if got, e := Words(api.Link{}, 4); got != nil || e != api.ErrNone {
		t.Errorf("Words of nothing heard = %v, %d, want no list, ErrNone", got, e)
	}
}

// P27 and P28: a long talk, beside what is remembered of it here.
func TestTalk(t *testing.T) {
	r := rand.New(rand.NewSource(27))
	for range 200 {
		l, ticks, bad := api.Link{}, 0, 0
		var last *api.Frame
		for range 300 {
			switch r.Intn(8) {
			case 0:
				got, e := Hear(l, "\x10\x00\x00\x8f\xfe")
				if e != api.ErrSum {
					t.Fatalf("Hear(%v) of a wrong sum = %d, want ErrSum", l, e)
				}
				l = got
				bad++
			case 1, 2:
				f := api.Frame{Kind: 1 + r.Intn(2), Lane: r.Intn(4), Seq: uint8(r.Intn(256)), Words: []int32{r.Int31()}}
				want := api.OK
				// Half of the way round is not ahead: as int8 it is below 0.
				if last != nil && ticks < 100 && int8(f.Seq-last.Seq) <= 0 {
					want = api.ErrStale
				}
				got, e := Hear(l, pack(t, f))
				if e != want {
					t.Fatalf("Hear(%v) of %v = %d, want %d", l, f, e, want)
				}
				l = got
				if want == api.OK {
					last, ticks = &f, 0
				} else {
					bad++
				}
			default:
				for range 1 + r.Intn(15) {
					l, _ = Tick(l)
					ticks++
				}
			}
			want := api.Link{Bad: bad}
			if last != nil {
				want = api.Link{Last: *last, Heard: true, Age: min(ticks, 100), Bad: bad}
				mustWords(t, l, min(ticks, 100), last.Words, api.OK)
			}
			if !same(l, want) {
				t.Fatalf("the link is %v, want %v", l, want)
			}
		}
	}
}

// P2: what is handed in stays, the memory behind the list too, and what is told
// again is the same, whatever was asked between.
func TestNothingIsChanged(t *testing.T) {
	links := right()
	for _, x := range wrong() {
		links = append(links, x.l)
	}
	for _, l := range links {
		whole := append(slices.Clone(l.Last.Words), 7, -7, 77, -77, 777)
		was := slices.Clone(whole)
		l.Last.Words = whole[:len(l.Last.Words)]
		for _, s := range []string{"abc", "\x10\x00\x00\x8f\xff", "\x23\x09\x02\xff\xff\xff\xfe\x00\x00\x01\x02\x63\xea"} {
			checked := Check(l)
			one, e := Hear(l, s)
			ticked, g := Tick(l)
			words, h := Words(l, 50)
			if !slices.Equal(whole, was) {
				t.Errorf("the Words of %v were changed", l)
			}
			for _, x := range right() {
				Hear(x, "abc")
				Tick(x)
				Words(x, 3)
			}
			if again := Check(l); again != checked {
				t.Errorf("Check(%v) told %d and then %d", l, checked, again)
			}
			if again, k := Hear(l, s); !same(again, one) || k != e {
				t.Errorf("Hear(%v, %q) told %v, %d and then %v, %d", l, s, one, e, again, k)
			}
			if again, k := Tick(l); !same(again, ticked) || k != g {
				t.Errorf("Tick(%v) told %v, %d and then %v, %d", l, ticked, g, again, k)
			}
			if again, k := Words(l, 50); !slices.Equal(again, words) || k != h {
				t.Errorf("Words(%v) told %v, %d and then %v, %d", l, words, h, again, k)
			}
		}
	}
}

// overwrite puts another number into all of a list's memory.
func overwrite(words []int32) {
	all := words[:cap(words)]
	for k := range all {
		all[k] = 99
	}
}

// P2: Words that are told are memory of their own, spare memory included, whether
// what was heard was taken, stale or spoilt.
func TestNewMemory(t *testing.T) {
	stale := pack(t, api.Frame{Kind: 1, Seq: 20, Words: []int32{5}})
	newer := pack(t, api.Frame{Kind: 1, Seq: 21, Words: []int32{5}})
	for many := range 9 {
		for _, isHeard := range []bool{true, false} {
			whole := []int32{1, 2, 3, 4, 5, 6, 7, 8, 9, 10, 11, 12}
			was := slices.Clone(whole)
			l := api.Link{Last: api.Frame{Words: whole[:0]}}
			if isHeard {
				l = heard(20, 3, 0, whole[:many]...)
			}
			for _, s := range []string{stale, newer, "abc", ""} {
				one, _ := Hear(l, s)
				other, _ := Hear(l, s)
				kept := slices.Clone(other.Last.Words)
				overwrite(one.Last.Words)
				if !slices.Equal(whole, was) || !slices.Equal(other.Last.Words, kept) {
					t.Errorf("Hear of %q tells memory that it does not own", s)
				}
			}
			ticked, _ := Tick(l)
			overwrite(ticked.Last.Words)
			words, _ := Words(l, 100)
			overwrite(words)
			if !slices.Equal(whole, was) {
				t.Errorf("Tick or Words tells memory that was handed in")
			}
		}
	}
}
