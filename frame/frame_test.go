package frame

import (
	"encoding/binary"
	"math"
	"math/rand"
	"slices"
	"strings"
	"testing"

	"steadyhand/api"
	"steadyhand/crc"
)

const (
	most  = math.MaxInt32
	least = math.MinInt32
)

// known are frames and their bytes, the sums among them reckoned elsewhere.
var known = []struct {
	f api.Frame
	s string
}{
	{api.Frame{Kind: 1}, "\x10\x00\x00\x8f\xff"},
	{api.Frame{Kind: 2, Lane: 3, Seq: 255}, "\x23\xff\x00\x10\xf5"},
	// One word has nine bytes.
	{api.Frame{Kind: 1, Words: []int32{0}}, "\x10\x00\x01\x00\x00\x00\x00\x6c\xe4"},
	{api.Frame{Kind: 1, Lane: 1, Seq: 128, Words: []int32{most}}, "\x11\x80\x01\x7f\xff\xff\xff\x44\x52"},
	{api.Frame{Kind: 1, Lane: 2, Seq: 127, Words: []int32{least}}, "\x12\x7f\x01\x80\x00\x00\x00\x51\xa0"},
	{api.Frame{Kind: 2, Lane: 0, Seq: 1, Words: []int32{0x01020304}}, "\x20\x01\x01\x01\x02\x03\x04\x7d\xca"},
	{api.Frame{Kind: 2, Lane: 1, Seq: 10, Words: []int32{-1}}, "\x21\x0a\x01\xff\xff\xff\xff\x92\xc5"},
	{api.Frame{Kind: 2, Lane: 3, Seq: 9, Words: []int32{-2, 258}}, "\x23\x09\x02\xff\xff\xff\xfe\x00\x00\x01\x02\x63\xea"},
	{
		api.Frame{Kind: 1, Lane: 3, Seq: 65, Words: []int32{0x41c3a442, -128, 255, 256}},
		"\x13\x41\x04\x41\xc3\xa4\x42\xff\xff\xff\x80\x00\x00\x00\xff\x00\x00\x01\x00\xd8\xfb",
	},
	{
		api.Frame{Kind: 2, Lane: 2, Seq: 200, Words: []int32{1, -2, 3, -4, most, least, 0x7f80ff00, -0x7f80ff00}},
		"\x22\xc8\x08\x00\x00\x00\x01\xff\xff\xff\xfe\x00\x00\x00\x03\xff\xff\xff\xfc" +
			"\x7f\xff\xff\xff\x80\x00\x00\x00\x7f\x80\xff\x00\x80\x7f\x01\x00\x34\x87",
	},
}

// far are numbers that are a right Kind or Lane only in their lowest bits, and the
// ends of the type.
var far = []int{
	math.MinInt, -1 << 32, 1<<32 - 1, 1 << 32, 1<<32 + 1, 1<<32 + 2, 256, 257, 258, 1<<16 + 1,
	-255, -254, math.MinInt + 1, math.MinInt + 2, math.MaxInt,
}

// wrong are frames, and what Check has against them.
func wrong() []struct {
	f    api.Frame
	want api.Errno
} {
	many := make([]int32, 9)
	return []struct {
		f    api.Frame
		want api.Errno
	}{
		{api.Frame{}, api.ErrArg},
		{api.Frame{Kind: 0, Lane: 1, Seq: 5, Words: []int32{1}}, api.ErrArg},
		{api.Frame{Kind: 3}, api.ErrArg},
		{api.Frame{Kind: -1}, api.ErrArg},
		{api.Frame{Kind: 16}, api.ErrArg},
		{api.Frame{Kind: 17}, api.ErrArg},
		{api.Frame{Kind: 1, Lane: -1}, api.ErrArg},
		{api.Frame{Kind: 2, Lane: -1}, api.ErrArg},
		{api.Frame{Kind: 1, Lane: 4}, api.ErrArg},
		{api.Frame{Kind: 2, Lane: 4, Words: []int32{1, 2}}, api.ErrArg},
		// A Kind and a Lane that together make the byte of a right frame.
		{api.Frame{Kind: 0, Lane: 16}, api.ErrArg},
		{api.Frame{Kind: 1, Lane: 16}, api.ErrArg},
		{api.Frame{Kind: 3, Lane: -16}, api.ErrArg},
		{api.Frame{Kind: 17, Lane: 0}, api.ErrArg},
		{api.Frame{Kind: 1, Words: many}, api.ErrLarge},
		{api.Frame{Kind: 2, Lane: 3, Seq: 255, Words: many}, api.ErrLarge},
		{api.Frame{Kind: 2, Words: make([]int32, 255)}, api.ErrLarge},
		{api.Frame{Kind: 2, Words: make([]int32, 256)}, api.ErrLarge},
		{api.Frame{Kind: 2, Words: make([]int32, 257)}, api.ErrLarge},
		{api.Frame{Kind: 1, Words: make([]int32, 1<<16+1)}, api.ErrLarge},
		// What is told first is the answer.
		{api.Frame{Kind: 3, Words: many}, api.ErrArg},
		{api.Frame{Kind: 1, Lane: 4, Words: many}, api.ErrArg},
		{api.Frame{Kind: 0, Lane: -1, Words: many}, api.ErrArg},
	}
}

// P23: each Kind with each Lane, the right ones and those beside them.
func TestCheck(t *testing.T) {
	numbers := slices.Clone(far)
	for n := -20; n <= 40; n++ {
		numbers = append(numbers, n)
	}
	for _, kind := range numbers {
		for _, lane := range numbers {
			want := api.ErrArg
			if (kind == 1 || kind == 2) && (lane == 0 || lane == 1 || lane == 2 || lane == 3) {
				want = api.OK
			}
			if e := Check(api.Frame{Kind: kind, Lane: lane}); e != want {
				t.Errorf("Check of Kind %d, Lane %d = %d, want %d", kind, lane, e, want)
			}
		}
	}
	for _, x := range wrong() {
		if e := Check(x.f); e != x.want {
			t.Errorf("Check(%v) = %d, want %d", x.f, e, x.want)
		}
	}
}

// P23: up to 8 Words, whatever they and Seq are.
func TestCheckWords(t *testing.T) {
	for seq := range 256 {
		for many := range 40 {
			want := api.OK
			if many > 8 {
				want = api.ErrLarge
			}
			f := api.Frame{Kind: 1 + seq%2, Lane: seq % 4, Seq: uint8(seq), Words: slices.Repeat([]int32{least}, many)}
			if e := Check(f); e != want {
				t.Errorf("Check(%v) = %d, want %d", f, e, want)
			}
		}
	}
	for _, x := range known {
		if e := Check(x.f); e != api.OK {
			t.Errorf("Check(%v) = %d, want OK", x.f, e)
		}
	}
	// Spare memory is no Word.
	if e := Check(api.Frame{Kind: 1, Words: make([]int32, 8, 100)}); e != api.OK {
		t.Errorf("Check of 8 Words with spare memory = %d, want OK", e)
	}
}

func same(a, b api.Frame) bool {
	return a.Kind == b.Kind && a.Lane == b.Lane && a.Seq == b.Seq && slices.Equal(a.Words, b.Words)
}

// mustRead fails unless Read of s tells this frame and this error.
func mustRead(t *testing.T, s string, want api.Frame, wantErr api.Errno) {
	t.Helper()
	if got, e := Read(s); !same(got, want) || e != wantErr {
		t.Fatalf("Read(%q) = %v, %d, want %v, %d", s, got, e, want, wantErr)
	}
}

// put is crc.Put of what it takes.
func put(t *testing.T, s string) string {
	t.Helper()
	u, e := crc.Put(s)
	if e != api.OK {
		t.Fatalf("crc.Put of %d bytes = %d, want OK", len(s), e)
	}
	return u
}

// P24.
func TestKnown(t *testing.T) {
	for _, x := range known {
		if got, e := Pack(x.f); got != x.s || e != api.OK {
			t.Errorf("Pack(%v) = %q, %d, want %q, OK", x.f, got, e, x.s)
		}
		mustRead(t, x.s, x.f, api.OK)
	}
	// No Words, whether nil or empty.
	if got, e := Pack(api.Frame{Kind: 1, Words: []int32{}}); got != known[0].s || e != api.OK {
		t.Errorf("Pack of empty Words = %q, %d, want %q, OK", got, e, known[0].s)
	}
}

// P24: Check's error, and nothing beside it.
func TestPackWrong(t *testing.T) {
	for _, x := range wrong() {
		if got, e := Pack(x.f); got != "" || e != x.want {
			t.Errorf("Pack(%v) = %q, %d, want nothing, %d", x.f, got, e, x.want)
		}
	}
	for _, n := range far {
		for _, f := range []api.Frame{{Kind: n, Lane: 1}, {Kind: 1, Lane: n}, {Kind: n, Lane: n}} {
			if got, e := Pack(f); got != "" || e != api.ErrArg {
				t.Errorf("Pack(%v) = %q, %d, want nothing, ErrArg", f, got, e)
			}
		}
	}
}

// some is a frame that is right, with numbers of all kinds.
func some(r *rand.Rand) api.Frame {
	f := api.Frame{Kind: 1 + r.Intn(2), Lane: r.Intn(4), Seq: uint8(r.Intn(256))}
	for range r.Intn(9) {
		w := int32(r.Uint32())
		if r.Intn(2) == 0 {
			w >>= r.Intn(32)
		}
		f.Words = append(f.Words, w)
	}
	return f
}

// written is f as the bytes of P24, without their sum.
func written(f api.Frame) string {
	b := []byte{byte(f.Kind<<4 | f.Lane), f.Seq, byte(len(f.Words))}
	for _, w := range f.Words {
		b = binary.BigEndian.AppendUint32(b, uint32(w))
	}
	return string(b)
}

// P24: what is packed is read.
func TestReadOfPack(t *testing.T) {
	r := rand.New(rand.NewSource(24))
	for range 20000 {
		f := some(r)
		got, e := Pack(f)
		if want := put(t, written(f)); got != want || e != api.OK {
			t.Fatalf("Pack(%v) = %q, %d, want %q, OK", f, got, e, want)
		}
		mustRead(t, got, f, api.OK)
	}
}

// P24: each Kind, Lane, Seq, and each number of Words that there may be.
func TestEveryHead(t *testing.T) {
	for kind := 1; kind <= 2; kind++ {
		for lane := range 4 {
			for seq := range 256 {
				for many := range 9 {
					f := api.Frame{Kind: kind, Lane: lane, Seq: uint8(seq), Words: make([]int32, many)}
					for k := range f.Words {
						f.Words[k] = int32(k-4) * 123456789
					}
					got, e := Pack(f)
					if want := put(t, written(f)); got != want || len(got) != 5+4*many || e != api.OK {
						t.Fatalf("Pack(%v) = %q, %d, want %q, OK", f, got, e, want)
					}
					mustRead(t, got, f, api.OK)
				}
			}
		}
	}
}

// P24: each bit of a Word has its place.
func TestEveryBit(t *testing.T) {
	for k := range 64 {
		f := api.Frame{Kind: 1, Words: make([]int32, 2)}
		n := uint64(1) << (63 - k)
		f.Words[0], f.Words[1] = int32(uint32(n>>32)), int32(uint32(n))
		b := []byte("\x10\x00\x02\x00\x00\x00\x00\x00\x00\x00\x00")
		b[3+k/8] = 0x80 >> (k % 8)
		want := put(t, string(b))
		if got, e := Pack(f); got != want || e != api.OK {
			t.Errorf("Pack(%v) = %q, %d, want %q, OK", f, got, e, want)
		}
		mustRead(t, want, f, api.OK)
	}
}

// P24: crc.Get's errors come first.
func TestReadSum(t *testing.T) {
	for _, x := range []struct {
		s    string
		want api.Errno
	}{
		{"", api.ErrShort}, {"\x10", api.ErrShort}, {"\xff", api.ErrShort},
		{"\x00\x00", api.ErrSum}, {"\x8f\xff", api.ErrSum},
		// Too short for a head, and the sum is wrong.
		{"\x10\x8f\xff", api.ErrSum}, {"\x10\x00\x8f\xff", api.ErrSum},
		{"\x10\x00\x00\x8f\xfe", api.ErrSum}, {"\x10\x00\x00\xff\x8f", api.ErrSum},
		{"\x10\x00\x00\x8f\xff\xff", api.ErrSum}, {"\x00\x10\x00\x00\x8f\xff", api.ErrSum},
		// A wrong sum and a wrong form, kind or lane.
		{"\x10\x00\x01\x8f\xff", api.ErrSum}, {"\x30\x00\x00\x8f\xff", api.ErrSum}, {"\x14\x00\x00\x8f\xff", api.ErrSum},
		{strings.Repeat("x", 4095), api.ErrSum},
		{strings.Repeat("x", 4096), api.ErrLarge}, {strings.Repeat("\x10", 1<<20), api.ErrLarge},
	} {
		mustRead(t, x.s, api.Frame{}, x.want)
	}
	for _, x := range known {
		for end := range len(x.s) {
			_, want := crc.Get(x.s[:end])
			if want == api.OK {
				t.Fatalf("%q has a right sum, it is no text to try", x.s[:end])
			}
			mustRead(t, x.s[:end], api.Frame{}, want)
		}
	}
}

// P24: fewer than three bytes ahead of the sum.
func TestReadShort(t *testing.T) {
	mustRead(t, put(t, ""), api.Frame{}, api.ErrShort)
	for a := range 256 {
		mustRead(t, put(t, string([]byte{byte(a)})), api.Frame{}, api.ErrShort)
		for b := range 256 {
			mustRead(t, put(t, string([]byte{byte(a), byte(b)})), api.Frame{}, api.ErrShort)
		}
	}
}

// P24: as many bytes as the third one says, no other number of them; of as many
// Check's error, and no frame beside it.
func TestReadForm(t *testing.T) {
	for _, first := range []byte{0x10, 0x23, 0x00, 0x14, 0x33, 0xff} {
		right := first == 0x10 || first == 0x23
		for says := range 256 {
			for _, more := range []int{-1024, -5, -4, -3, -2, -1, 0, 1, 2, 3, 4, 5, 1024, 2048} {
				many := 4*says + more
				if many < 0 {
					continue
				}
				want, e := api.Frame{}, api.OK
				switch {
				case more != 0:
					e = api.ErrForm
				case !right:
					e = api.ErrArg
				case says > 8:
					e = api.ErrLarge
				default:
					want = api.Frame{Kind: int(first >> 4), Lane: int(first & 15), Seq: 7, Words: slices.Repeat([]int32{0x7a7a7a7a}, says)}
				}
				mustRead(t, put(t, string([]byte{first, 7, byte(says)})+strings.Repeat("z", many)), want, e)
			}
		}
	}
	// The longest text there may be.
	mustRead(t, put(t, "\x10\x00\xff"+strings.Repeat("z", 4090)), api.Frame{}, api.ErrForm)
	mustRead(t, put(t, "\x10\x00\x00"+strings.Repeat("z", 4090)), api.Frame{}, api.ErrForm)
}

// P24: each first byte, with and without Words: the kinds and lanes that there are
// not, with Check's error and no frame beside it.
func TestReadEveryFirst(t *testing.T) {
	for first := range 256 {
		for seq := range 256 {
			for many := range 11 {
				if seq%51 != 0 && many != 1 {
					continue
				}
				want := api.Frame{Kind: first / 16, Lane: first % 16, Seq: uint8(seq), Words: slices.Repeat([]int32{-3}, many)}
				s, e := put(t, written(want)), api.OK
				switch {
				case first/16 < 1 || first/16 > 2 || first%16 > 3:
					want, e = api.Frame{}, api.ErrArg
				case many > 8:
					want, e = api.Frame{}, api.ErrLarge
				}
				mustRead(t, s, want, e)
			}
		}
	}
}

// P24: what Read takes is what Pack makes, and nothing else.
func TestPackOfRead(t *testing.T) {
	r := rand.New(rand.NewSource(25))
	taken := 0
	for range 200000 {
		b := make([]byte, r.Intn(40))
		for k := range b {
			b[k] = byte(r.Intn(256))
		}
		if len(b) > 2 && r.Intn(4) > 0 {
			b[0] = byte(16*r.Intn(4) + r.Intn(6))
			b[2] = byte(len(b) / 4)
		}
		s := put(t, string(b))
		f, e := Read(s)
		if e != api.OK {
			if !same(f, api.Frame{}) {
				t.Fatalf("Read(%q) = %v, %d, want no frame", s, f, e)
			}
			continue
		}
		taken++
		if again, e := Pack(f); again != s || e != api.OK {
			t.Fatalf("Pack of Read(%q) = %q, %d, want the same, OK", s, again, e)
		}
	}
	if taken < 1000 {
		t.Errorf("only %d texts were frames", taken)
	}
}

// P24: a frame whose bits were turned over is not told.
func TestReadSpoilt(t *testing.T) {
	for _, x := range known {
		for a := range 8 * len(x.s) {
			for b := range a + 1 {
				spoilt := []byte(x.s)
				spoilt[a/8] ^= 1 << (a % 8)
				if b < a {
					spoilt[b/8] ^= 1 << (b % 8)
				}
				mustRead(t, string(spoilt), api.Frame{}, api.ErrSum)
			}
		}
	}
}

// P25: each number and each other one: from b on, going round, a comes within
// 127 steps, and not at once.
func TestNewer(t *testing.T) {
	for b := range 256 {
		for steps := range 256 {
			a := (b + steps) % 256
			if got, want := Newer(uint8(a), uint8(b)), steps > 0 && steps < 128; got != want {
				t.Errorf("Newer(%d, %d) = %t, want %t", a, b, got, want)
			}
		}
	}
}

// P25: the edges, written out.
func TestNewerEdges(t *testing.T) {
	for _, x := range []struct {
		a, b uint8
		want bool
	}{
		{0, 0, false}, {255, 255, false}, {1, 0, true}, {0, 1, false}, {0, 255, true}, {255, 0, false},
		{127, 0, true}, {128, 0, false}, {0, 128, false}, {129, 0, false}, {0, 129, true},
		{3, 250, true}, {250, 3, false}, {126, 255, true}, {127, 255, false}, {128, 255, false},
	} {
		if got := Newer(x.a, x.b); got != x.want {
			t.Errorf("Newer(%d, %d) = %t, want %t", x.a, x.b, got, x.want)
		}
	}
}

// P2: what is handed in stays, the memory behind the list too, and what is told
// again is the same, whatever was asked between.
func TestNothingIsChanged(t *testing.T) {
	frames := []api.Frame{}
	for _, x := range known {
		frames = append(frames, x.f)
	}
	for _, x := range wrong() {
		frames = append(frames, x.f)
	}
	for _, f := range frames {
		whole := append(slices.Clone(f.Words), 7, -7, 77, -77, 777)
		was := slices.Clone(whole)
		f.Words = whole[:len(f.Words)]
		checked := Check(f)
		packed, e := Pack(f)
		read, g := Read(packed)
		if !slices.Equal(whole, was) {
			t.Errorf("the Words of %v were changed", f)
		}
		for _, x := range known {
			Check(x.f)
			Pack(x.f)
			Read(x.s)
		}
		if again := Check(f); again != checked {
			t.Errorf("Check(%v) told %d and then %d", f, checked, again)
		}
		if again, k := Pack(f); again != packed || k != e {
			t.Errorf("Pack(%v) told %q, %d and then %q, %d", f, packed, e, again, k)
		}
		if again, k := Read(packed); !same(again, read) || k != g {
			t.Errorf("Read(%q) told %v, %d and then %v, %d", packed, read, g, again, k)
		}
	}
}

// P2: Words that are told are memory of their own, and Pack keeps none.
func TestNewMemory(t *testing.T) {
	for _, x := range known {
		f := x.f
		f.Words = slices.Clone(f.Words)
		s, _ := Pack(f)
		for k := range f.Words {
			f.Words[k] = 99
		}
		if s != x.s {
			t.Errorf("Pack(%v) shares memory with the Words", x.f)
		}
		one, _ := Read(s)
		other, _ := Read(s)
		spare := one.Words[:cap(one.Words)]
		for k := range spare {
			spare[k] = 99
		}
		if !same(other, x.f) || s != x.s {
			t.Errorf("Read(%q) shares memory with what was handed in or told ahead of it", x.s)
		}
	}
}
