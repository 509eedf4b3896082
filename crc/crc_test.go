package crc

import (
	"math/big"
	"math/rand"
	"strings"
	"testing"
	"unsafe"

	"steadyhand/api"
)

// every is each byte once.
func every() string {
	b := make([]byte, 256)
	for k := range b {
		b[k] = byte(k)
	}
	return string(b)
}

// some is a text of many bytes of all kinds.
func some(r *rand.Rand, many int) string {
	b := make([]byte, many)
	for k := range b {
		b[k] = byte(r.Intn(256))
	}
	return string(b)
}

// turned is s with these bits turned over, counted from the top bit of the first byte.
func turned(s string, bits ...int) string {
	b := []byte(s)
	for _, k := range bits {
		b[k/8] ^= 0x80 >> (k % 8)
	}
	return string(b)
}

// put is Put of what it takes.
func put(t *testing.T, s string) string {
	t.Helper()
	u, e := Put(s)
	if e != api.OK {
		t.Fatalf("Put of %d bytes = %d, want OK", len(s), e)
	}
	return u
}

// P21.
func TestSum(t *testing.T) {
	for _, x := range []struct {
		s    string
		want uint16
	}{
		{"", 0xffff}, {"123456789", 0x29b1}, {"A", 0xb915}, {"abc", 0x514a},
		// Zeros and ones, at the front and behind.
		{"\x00", 0xe1f0}, {"\x00\x00", 0x1d0f}, {"\xff", 0xff00}, {"\xff\xff", 0x0000},
		{"\x00A", 0x45ea}, {"A\x00", 0x23f2},
		// Bytes, not runes: what is a rune of several bytes, and what is none.
		{"\u00e4", 0xab66}, {"\xe4", 0x5c5a}, {"\xf0\x9f\x98\x80", 0x4f4f}, {"\x80\xfe\xff", 0xd9f8},
		{every(), 0x3fbd},
	} {
		if got := Sum(x.s); got != x.want {
			t.Errorf("Sum(%q) = %04x, want %04x", x.s, got, x.want)
		}
	}
}

// remainder reckons with the whole text as one number without end: ffff over its
// first sixteen bits, sixteen zeros behind, and what is left by 11021 (base 16).
func remainder(s string) uint16 {
	n := new(big.Int).SetBytes([]byte(s + "\x00\x00"))
	n.Xor(n, new(big.Int).Lsh(big.NewInt(0xffff), uint(8*len(s))))
	for n.BitLen() > 16 {
		n.Xor(n, new(big.Int).Lsh(big.NewInt(0x11021), uint(n.BitLen()-17)))
	}
	return uint16(n.Uint64())
}

// P21: all texts of up to two bytes, and many longer ones.
func TestSumEverywhere(t *testing.T) {
	for k := range 1 << 8 {
		if s := string([]byte{byte(k)}); Sum(s) != remainder(s) {
			t.Fatalf("Sum(%q) = %04x, want %04x", s, Sum(s), remainder(s))
		}
	}
	for k := range 1 << 16 {
		if s := string([]byte{byte(k >> 8), byte(k)}); Sum(s) != remainder(s) {
			t.Fatalf("Sum(%q) = %04x, want %04x", s, Sum(s), remainder(s))
		}
	}
	r := rand.New(rand.NewSource(21))
	for range 2000 {
		if s := some(r, r.Intn(80)); Sum(s) != remainder(s) {
			t.Fatalf("Sum(%q) = %04x, want %04x", s, Sum(s), remainder(s))
		}
	}
}

// P21: Sum has no bound.
func TestSumLong(t *testing.T) {
	r := rand.New(rand.NewSource(22))
	for _, many := range []int{4093, 4094, 4095, 4096, 9000} {
		if s := some(r, many); Sum(s) != remainder(s) {
			t.Errorf("Sum of %d bytes = %04x, want %04x", many, Sum(s), remainder(s))
		}
	}
	// What is summed together with its own sum leaves nothing, however long it is.
	s := some(r, 1<<20)
	if n := Sum(s); n == 0 || Sum(s+string([]byte{byte(n >> 8), byte(n)})) != 0 {
		t.Errorf("Sum of %d bytes and of its sum is not 0", len(s))
	}
}

// P22.
func TestPut(t *testing.T) {
	for _, x := range []struct{ s, want string }{
		{"", "\xff\xff"}, {"123456789", "123456789\x29\xb1"}, {"A", "A\xb9\x15"},
		{"\x00", "\x00\xe1\xf0"}, {"\xff", "\xff\xff\x00"}, {"\xff\xff", "\xff\xff\x00\x00"},
		{"\u00e4", "\u00e4\xab\x66"}, {"\x80\xfe\xff", "\x80\xfe\xff\xd9\xf8"},
		// What has its sum may get one more.
		{"123456789\x29\xb1", "123456789\x29\xb1\x00\x00"},
	} {
		if got, e := Put(x.s); got != x.want || e != api.OK {
			t.Errorf("Put(%q) = %q, %d, want %q, OK", x.s, got, e, x.want)
		}
	}
}

// P22: to 4095 bytes with the sum, and not beyond.
func TestPutLarge(t *testing.T) {
	for _, many := range []int{0, 1, 2, 4091, 4092, 4093, 4094, 4095, 4096, 4097, 65535, 65536, 1 << 20} {
		s := strings.Repeat("x", many)
		got, e := Put(s)
		if many > 4093 {
			if got != "" || e != api.ErrLarge {
				t.Errorf("Put of %d bytes = %d bytes, %d, want nothing, ErrLarge", many, len(got), e)
			}
			continue
		}
		n := remainder(s)
		if got != s+string([]byte{byte(n >> 8), byte(n)}) || e != api.OK {
			t.Errorf("Put of %d bytes = %d bytes, %d, want them and %04x, OK", many, len(got), e, n)
		}
	}
}

// P22.
func TestGet(t *testing.T) {
	for _, x := range []struct {
		s, want string
		e       api.Errno
	}{
		{"\xff\xff", "", api.OK}, {"123456789\x29\xb1", "123456789", api.OK}, {"A\xb9\x15", "A", api.OK},
		{"\x00\xe1\xf0", "\x00", api.OK}, {"\xff\xff\x00\x00", "\xff\xff", api.OK}, {"\u00e4\xab\x66", "\u00e4", api.OK},
		// A zero behind a right text: the sum of what is then ahead is the rest of the old one.
		{"123456789\x29\xb1\x00", "123456789\x29", api.OK},
		// Fewer than two bytes, whatever they are.
		{"", "", api.ErrShort}, {"a", "", api.ErrShort}, {"\xff", "", api.ErrShort}, {"\x00", "", api.ErrShort},
		// Sums of nothing that are none.
		{"\x00\x00", "", api.ErrSum}, {"\xff\xfe", "", api.ErrSum}, {"\x7f\xff", "", api.ErrSum}, {"ab", "", api.ErrSum},
		// The lower byte first, one byte wrong, the sum turned over, no sum.
		{"123456789\xb1\x29", "", api.ErrSum}, {"123456789\x29\xb0", "", api.ErrSum}, {"123456789\x28\xb1", "", api.ErrSum},
		{"123456789\xd6\x4e", "", api.ErrSum}, {"123456789", "", api.ErrSum},
		// A byte more or less, in front and behind, and two that changed places.
		{"1123456789\x29\xb1", "", api.ErrSum}, {"123456789\x29\xb1\x01", "", api.ErrSum}, {"23456789\x29\xb1", "", api.ErrSum},
		{"123456789\x29", "", api.ErrSum}, {"\x00123456789\x29\xb1", "", api.ErrSum}, {"213456789\x29\xb1", "", api.ErrSum},
	} {
		if got, e := Get(x.s); got != x.want || e != x.e {
			t.Errorf("Get(%q) = %q, %d, want %q, %d", x.s, got, e, x.want, x.e)
		}
	}
}

// P22: of more than 4095 bytes ErrLarge, whether the sum is right or not.
func TestGetLarge(t *testing.T) {
	r := rand.New(rand.NewSource(23))
	for _, many := range []int{4094, 4095, 4096, 4097, 4098, 65536, 65538, 1 << 20} {
		ahead := some(r, many-2)
		n := Sum(ahead)
		right := ahead + string([]byte{byte(n >> 8), byte(n)})
		wrong := turned(right, 8*many-1)
		want, first, second := ahead, api.OK, api.ErrSum
		if many > 4095 {
			want, first, second = "", api.ErrLarge, api.ErrLarge
		}
		if got, e := Get(right); got != want || e != first {
			t.Errorf("Get of %d bytes = %d bytes, %d, want %d bytes, %d", many, len(got), e, len(want), first)
		}
		if got, e := Get(wrong); got != "" || e != second {
			t.Errorf("Get of %d wrong bytes = %d bytes, %d, want nothing, %d", many, len(got), e, second)
		}
	}
}

// P22: of all that two bytes may say behind a text only its sum is right.
func TestGetOneSum(t *testing.T) {
	for _, s := range []string{"", "\x00", "123456789"} {
		for k := range 1 << 16 {
			want, e := "", api.ErrSum
			if uint16(k) == remainder(s) {
				want, e = s, api.OK
			}
			if got, f := Get(s + string([]byte{byte(k >> 8), byte(k)})); got != want || f != e {
				t.Fatalf("Get(%q and %04x) = %q, %d, want %q, %d", s, k, got, f, want, e)
			}
		}
	}
}

// P22: Get tells what was put.
func TestGetOfPut(t *testing.T) {
	r := rand.New(rand.NewSource(24))
	for k := range 3000 {
		many := k
		if k > 300 {
			many = r.Intn(4094)
		}
		s := some(r, many)
		if got, e := Get(put(t, s)); got != s || e != api.OK {
			t.Fatalf("Get of Put of %d bytes = %d bytes, %d, want these, OK", many, len(got), e)
		}
	}
}

// mustTell fails unless Get tells that bits of s were turned over.
func mustTell(t *testing.T, s string, bits ...int) {
	t.Helper()
	if got, e := Get(turned(s, bits...)); got != "" || e != api.ErrSum {
		t.Fatalf("Get of %d bytes with the bits %v turned over = %d bytes, %d, want nothing, ErrSum", len(s), bits, len(got), e)
	}
}

// short are texts so small that all their bits can be gone through.
var short = []string{"", "\x00", "A", "\xff\xff", "1234", "\x00\x00\x00\x00\x00"}

// P22: any one, two or three bits.
func TestFewBits(t *testing.T) {
	for _, s := range short {
		s = put(t, s)
		for a := range 8 * len(s) {
			mustTell(t, s, a)
			for b := range a {
				mustTell(t, s, a, b)
				for c := range b {
					mustTell(t, s, a, b, c)
				}
			}
		}
	}
}

// P22: any odd number of bits.
func TestOddBits(t *testing.T) {
	r := rand.New(rand.NewSource(25))
	for _, many := range []int{0, 1, 7, 100, 4093} {
		s := put(t, some(r, many))
		bits := 8 * len(s)
		for range 300 {
			odd := 1 + 2*r.Intn(bits/2)
			mustTell(t, s, r.Perm(bits)[:odd]...)
		}
		// As many as there may be: all of them but one.
		mustTell(t, s, r.Perm(bits)[1:]...)
	}
}

// P22: any bits within sixteen, wherever these stand, also over the edge of the sum.
func TestBitsWithinSixteen(t *testing.T) {
	s := put(t, "12\x00\xff")
	for at := range 8*len(s) - 15 {
		for k := 1; k < 1<<16; k++ {
			b := []byte(s)
			for i := range 3 {
				// The sixteen bits lie over two bytes, or three.
				if at/8+i < len(b) {
					b[at/8+i] ^= byte(k << (8 - at%8) >> (16 - 8*i))
				}
			}
			if got, e := Get(string(b)); got != "" || e != api.ErrSum {
				t.Fatalf("Get with %016b turned over from bit %d on = %q, %d, want nothing, ErrSum", k, at, got, e)
			}
		}
	}
}

// P22: two bits and sixteen near one another, in a text of the greatest length.
func TestBitsOfLongText(t *testing.T) {
	r := rand.New(rand.NewSource(26))
	s := put(t, some(r, 4093))
	last := 8*len(s) - 1
	for a := range 24 {
		mustTell(t, s, a)
		mustTell(t, s, last-a)
		for b := range 24 {
			mustTell(t, s, a, last-b)
		}
	}
	for range 2000 {
		l := r.Perm(last + 1)[:3]
		mustTell(t, s, l[0])
		mustTell(t, s, l[:2]...)
		mustTell(t, s, l...)
		at := r.Intn(last - 14)
		near := r.Perm(16)[:1+r.Intn(16)]
		for k := range near {
			near[k] += at
		}
		mustTell(t, s, near...)
	}
}

// P22: any two bits of a text of the greatest length. What turning a bit over does
// to the sum hangs on its place alone, so no two places may do the same.
func TestAnyTwoBitsOfLongText(t *testing.T) {
	where := map[uint16]int{}
	for behind := range 4093 {
		zeros := strings.Repeat("\x00", behind)
		was := Sum("\x00" + zeros)
		for k := range 8 {
			does := was ^ Sum(turned("\x00"+zeros, k))
			// A bit of the sum itself does one single bit.
			if other, ok := where[does]; ok || does&(does-1) == 0 {
				t.Fatalf("bit %d with %d bytes behind it does %04x, as %d", k, behind, does, other)
			}
			where[does] = behind
		}
	}
}

// shares tells if a and b have a byte of memory in common.
func shares(a, b string) bool {
	from, to := uintptr(unsafe.Pointer(unsafe.StringData(a))), uintptr(unsafe.Pointer(unsafe.StringData(b)))
	return from < to+uintptr(len(b)) && to < from+uintptr(len(a))
}

// P2: what Get and Put answer is memory of its own.
func TestNewMemory(t *testing.T) {
	for _, s := range []string{"A", "123456789", every(), strings.Repeat("x", 4093)} {
		whole := put(t, s)
		if shares(whole, s) {
			t.Errorf("Put of %d bytes shares their memory", len(s))
		}
		got, e := Get(whole)
		if got != s || e != api.OK {
			t.Errorf("Get of %d bytes = %q, %d, want %q, OK", len(whole), got, e, s)
		}
		if shares(got, whole) {
			t.Errorf("Get of %d bytes shares their memory", len(whole))
		}
	}
}

// P2: what is told again is the same, whatever was asked between.
func TestNothingIsKept(t *testing.T) {
	for _, s := range []string{"", "A", "A\xb9\x15", "123456789\x29\xb0", strings.Repeat("x", 4094), strings.Repeat("x", 4096)} {
		sum := Sum(s)
		made, e := Put(s)
		got, f := Get(s)
		for _, other := range []string{"", "\xff\xff", "zzz", every()} {
			Sum(other)
			Put(other)
			Get(other)
		}
		if again := Sum(s); again != sum {
			t.Errorf("Sum of %d bytes told %04x and then %04x", len(s), sum, again)
		}
		if again, k := Put(s); again != made || k != e {
			t.Errorf("Put of %d bytes told %q, %d and then %q, %d", len(s), made, e, again, k)
		}
		if again, k := Get(s); again != got || k != f {
			t.Errorf("Get of %d bytes told %q, %d and then %q, %d", len(s), got, f, again, k)
		}
	}
}
