package fix

import (
	"math"
	"math/big"
	"testing"

	"steadyhand/api"
)

const (
	one   = api.One
	most  = math.MaxInt32
	least = math.MinInt32
)

// edges are the numbers at and beside which a sign turns, a half stands or the
// numbers end.
var edges = []int32{
	least, least + 1, least + one/2, least / 2, -3 * one, -5 * one / 2, -3*one/2 - 1,
	-3 * one / 2, -one - 1, -one, -one + 1, -one/2 - 1, -one / 2, -one/2 + 1, -257, -256,
	-255, -3, -2, -1, 0, 1, 2, 3, 181, 182, 255, 256, 257, one/2 - 1, one / 2, one/2 + 1,
	one - 1, one, one + 1, 3 * one / 2, 3*one/2 + 1, 2 * one, 5 * one / 2, 3 * one, most / 2,
	most/2 + 1, most - one/2, most - one/2 + 1, most - 1, most,
}

// many calls f with numbers all over the type, a step apart that no power of two
// divides.
func many(f func(a int32)) {
	for n := int64(least); n <= most; n += 1_000_003 {
		f(int32(n))
	}
}

func wide(n int32) *big.Int { return big.NewInt(int64(n)) }

// nearest32 works on numbers without end, so that it can't go round itself.
func nearest32(n *big.Int) int32 {
	if n.Cmp(big.NewInt(least)) < 0 {
		return least
	}
	if n.Cmp(big.NewInt(most)) > 0 {
		return most
	}
	return int32(n.Int64())
}

// halvesUp is n / One, to the nearest: of 2n + One, divided by 2 One, rounded down.
func halvesUp(n *big.Int) *big.Int {
	twice := new(big.Int).Lsh(n, 1)
	twice.Add(twice, big.NewInt(one))
	return twice.Div(twice, big.NewInt(2*one))
}

func product(a, b int32) int32 {
	return nearest32(halvesUp(new(big.Int).Mul(wide(a), wide(b))))
}

func quotient(a, b int32) int32 {
	n := new(big.Int).Mul(wide(a), big.NewInt(one))
	return nearest32(n.Quo(n, wide(b)))
}

// P7.
func TestMul(t *testing.T) {
	for _, x := range []struct{ a, b, want int32 }{
		{0, 0, 0}, {0, most, 0}, {least, 0, 0},
		{3 * one, one / 2, 3 * one / 2}, {3 * one, -2 * one, -6 * one}, {-3 * one, -2 * one, 6 * one},
		{7, one, 7}, {-7, one, -7}, {7, -one, -7}, {most, one, most}, {least, one, least},
		// Halves, and what is one beside them.
		{1, one / 2, 1}, {-1, one / 2, 0}, {1, -one / 2, 0}, {-1, -one / 2, 1},
		{3, one / 2, 2}, {-3, one / 2, -1}, {3, -one / 2, -1}, {-3, -one / 2, 2},
		{1, one/2 - 1, 0}, {1, one/2 + 1, 1}, {-1, one/2 - 1, 0}, {-1, one/2 + 1, -1},
		{1, 1, 0}, {-1, 1, 0}, {255, 255, 1}, {-255, 255, -1}, {181, 181, 0}, {182, 182, 1},
		// The ends.
		{most, 2 * one, most}, {most, -2 * one, least}, {least, 2 * one, least}, {least, -2 * one, most},
		{least, -one, most}, {most, -one, -most}, {most, one + 1, most}, {least, one + 1, least},
		{most, most, most}, {least, least, most}, {most, least, least}, {least, most, least},
	} {
		if got := Mul(x.a, x.b); got != x.want {
			t.Errorf("Mul(%d, %d) = %d, want %d", x.a, x.b, got, x.want)
		}
	}
}

// P7.
func TestMulEverywhere(t *testing.T) {
	check := func(a, b int32) {
		if got, want := Mul(a, b), product(a, b); got != want {
			t.Fatalf("Mul(%d, %d) = %d, want %d", a, b, got, want)
		}
	}
	for _, b := range edges {
		for _, a := range edges {
			check(a, b)
		}
		many(func(a int32) { check(a, b) })
	}
}

// P7.
func TestDiv(t *testing.T) {
	for _, x := range []struct{ a, b, want int32 }{
		{3 * one, 2 * one, 3 * one / 2}, {-3 * one, 2 * one, -3 * one / 2},
		{3 * one, -2 * one, -3 * one / 2}, {-3 * one, -2 * one, 3 * one / 2},
		{0, 5, 0}, {0, -5, 0}, {7, one, 7}, {-7, one, -7}, {7, -one, -7},
		{most, one, most}, {least, one, least}, {most, most, one}, {least, least, one},
		// Toward 0, on both of its sides.
		{1, 2 * one, 0}, {-1, 2 * one, 0}, {1, -2 * one, 0}, {-1, -2 * one, 0},
		{3, 2 * one, 1}, {-3, 2 * one, -1}, {3, -2 * one, -1}, {-3, -2 * one, 1},
		{one, 3 * one, 21845}, {-one, 3 * one, -21845}, {2 * one, 3 * one, 43690}, {-2 * one, 3 * one, -43690},
		{most, least, -65535}, {least, most, -65536},
		// The ends.
		{most, 1, most}, {most, -1, least}, {least, 1, least}, {least, -1, most},
		{least, -one, most}, {most, -one, -most}, {most, one - 1, most}, {least, one - 1, least},
		{32767, 1, 32767 * one}, {32768, 1, most}, {-32768, 1, least}, {-32769, 1, least},
		{32768, -1, least}, {32769, -1, least}, {-32768, -1, most},
	} {
		if got := Div(x.a, x.b); got != x.want {
			t.Errorf("Div(%d, %d) = %d, want %d", x.a, x.b, got, x.want)
		}
	}
}

// P7, and P1: nothing panics by 0.
func TestDivByZero(t *testing.T) {
	for _, a := range edges {
		want := int32(0)
		if a > 0 {
			want = most
		}
		if a < 0 {
			want = least
		}
		if got := Div(a, 0); got != want {
			t.Errorf("Div(%d, 0) = %d, want %d", a, got, want)
		}
	}
}

// P7.
func TestDivEverywhere(t *testing.T) {
	check := func(a, b int32) {
		if b == 0 {
			return
		}
		if got, want := Div(a, b), quotient(a, b); got != want {
			t.Fatalf("Div(%d, %d) = %d, want %d", a, b, got, want)
		}
	}
	for _, e := range edges {
		for _, b := range edges {
			check(e, b)
		}
		many(func(a int32) { check(a, e); check(e, a) })
	}
}

// P8.
func TestRound(t *testing.T) {
	for _, x := range []struct {
		a    int32
		want int
	}{
		{0, 0}, {1, 0}, {-1, 0}, {5 * one, 5}, {-5 * one, -5}, {one - 1, 1}, {-one + 1, -1},
		// Halves go to the even one.
		{one / 2, 0}, {3 * one / 2, 2}, {5 * one / 2, 2}, {7 * one / 2, 4},
		{-one / 2, 0}, {-3 * one / 2, -2}, {-5 * one / 2, -2}, {-7 * one / 2, -4},
		// One beside a half is none.
		{one/2 - 1, 0}, {one/2 + 1, 1}, {-one/2 + 1, 0}, {-one/2 - 1, -1},
		{3*one/2 - 1, 1}, {3*one/2 + 1, 2}, {-3*one/2 + 1, -1}, {-3*one/2 - 1, -2},
		{5*one/2 - 1, 2}, {5*one/2 + 1, 3}, {-5*one/2 + 1, -2}, {-5*one/2 - 1, -3},
		// At the ends: nearest to the greatest ones is a whole number that Of can't tell.
		{most, 32768}, {most - one/2, 32767}, {most - one/2 + 1, 32768}, {most - one/2 + 2, 32768},
		{least, -32768}, {least + one/2 - 1, -32768}, {least + one/2, -32768}, {least + one/2 + 1, -32767},
	} {
		if got := Round(x.a); got != x.want {
			t.Errorf("Round(%d) = %d, want %d", x.a, got, x.want)
		}
	}
}

// P8: floats of 64 bits hold every such number as it is.
func TestRoundEverywhere(t *testing.T) {
	check := func(a int32) {
		if got, want := Round(a), int(math.RoundToEven(float64(a)/one)); got != want {
			t.Fatalf("Round(%d) = %d, want %d", a, got, want)
		}
	}
	for whole := int64(-32768); whole <= 32767; whole++ {
		for _, rest := range []int64{0, 1, one/2 - 1, one / 2, one/2 + 1, one - 1} {
			check(int32(whole*one + rest))
		}
	}
	many(check)
}

// P8.
func TestOf(t *testing.T) {
	for _, x := range []struct {
		n    int
		want int32
	}{
		{0, 0}, {1, one}, {-1, -one}, {-3, -3 * one}, {7, 7 * one},
		{32766, 32766 * one}, {32767, 32767 * one}, {32768, most}, {32769, most}, {40000, most},
		{-32767, -32767 * one}, {-32768, least}, {-32769, least}, {-40000, least},
		// Those that would go round in 32 or 64 bits.
		{65536, most}, {-65536, least}, {65537, most}, {-65537, least},
		{most, most}, {most + 1, most}, {least, least}, {least - 1, least},
		{1 << 32, most}, {1<<32 + 1, most}, {-1 << 32, least}, {-1<<32 - 1, least},
		{1 << 47, most}, {-1 << 47, least}, {1 << 48, most}, {-1 << 48, least}, {1<<48 + 1, most}, {-1<<48 - 1, least},
		{math.MaxInt, most}, {math.MinInt, least}, {math.MaxInt - 1, most}, {math.MinInt + 1, least},
	} {
		if got := Of(x.n); got != x.want {
			t.Errorf("Of(%d) = %d, want %d", x.n, got, x.want)
		}
	}
}

// P8: a whole number is told again as it was.
func TestRoundOf(t *testing.T) {
	for n := -32768; n <= 32767; n++ {
		if got := Of(n); int64(got) != int64(n)*one {
			t.Fatalf("Of(%d) = %d", n, got)
		}
		if got := Round(Of(n)); got != n {
			t.Fatalf("Round(Of(%d)) = %d", n, got)
		}
	}
}

// P9.
func TestSqrt(t *testing.T) {
	for _, x := range []struct{ a, want int32 }{
		{0, 0}, {1, 256}, {2, 362}, {3, 443}, {4, 512}, {one / 4, one / 2},
		{one, one}, {2 * one, 92681}, {3 * one, 113511}, {4 * one, 2 * one}, {9 * one, 3 * one},
		{one - 1, one - 1}, {one + 1, one}, {4*one - 1, 2*one - 1}, {4*one + 1, 2 * one},
		{4*one + 4, 2 * one}, {4*one + 5, 2*one + 1}, {32761 * one, 181 * one}, {32761*one - 1, 181*one - 1},
		{most, 11863283}, {most - 1, 11863283}, {1 << 30, 1 << 23}, {1<<30 - 1, 1<<23 - 1},
	} {
		if got, e := Sqrt(x.a); got != x.want || e != api.OK {
			t.Errorf("Sqrt(%d) = %d, %d, want %d, OK", x.a, got, e, x.want)
		}
	}
}

// P9: its square is not above a, that of the next one is.
func TestSqrtEverywhere(t *testing.T) {
	check := func(a int32) {
		if a < 0 {
			return
		}
		want := new(big.Int).Mul(wide(a), big.NewInt(one))
		want.Sqrt(want)
		if got, e := Sqrt(a); int64(got) != want.Int64() || e != api.OK {
			t.Fatalf("Sqrt(%d) = %d, %d, want %d, OK", a, got, e, want)
		}
	}
	for _, a := range edges {
		check(a)
	}
	for a := range int32(one) {
		check(a)
	}
	// Those that are squares, and beside them: every one that is some n / 256, squared.
	for n := int64(1); n*n < most; n++ {
		check(int32(n*n - 1))
		check(int32(n * n))
		check(int32(n*n + 1))
	}
	many(check)
}

// P9.
func TestSqrtBelowZero(t *testing.T) {
	for _, a := range edges {
		if a >= 0 {
			continue
		}
		if got, e := Sqrt(a); got != 0 || e != api.ErrArg {
			t.Errorf("Sqrt(%d) = %d, %d, want 0, ErrArg", a, got, e)
		}
	}
}

// P10.
func TestBetween(t *testing.T) {
	for _, x := range []struct{ a, b, t, want int32 }{
		{0, 8, one / 4, 2}, {8, 0, one / 4, 6}, {-8, 8, one / 2, 0}, {5, 9, one / 2, 7},
		{5, 9, 0, 5}, {5, 9, one, 9}, {9, 5, 0, 9}, {9, 5, one, 5}, {5, 5, one / 3, 5},
		// A t that is out of its bounds.
		{5, 9, -1, 5}, {5, 9, -3, 5}, {5, 9, least, 5}, {5, 9, one + 1, 9}, {5, 9, 3 * one, 9}, {5, 9, most, 9},
		{9, 5, -1, 9}, {9, 5, least, 9}, {9, 5, one + 1, 5}, {9, 5, most, 5},
		// Halves of the way go up, whichever way it goes.
		{0, 1, one / 2, 1}, {0, 1, one/2 - 1, 0}, {1, 0, one / 2, 1}, {1, 0, one/2 + 1, 0},
		{0, -1, one / 2, 0}, {0, -1, one/2 + 1, -1}, {-1, 0, one / 2, 0}, {-1, 0, one/2 - 1, -1},
		{0, 3, one / 2, 2}, {3, 0, one / 2, 2}, {0, -3, one / 2, -1}, {-3, 0, one / 2, -1},
		{10, 13, one / 2, 12}, {-10, -13, one / 2, -11}, {-13, -10, one / 2, -11},
		// A way that is longer than the greatest number.
		{least, most, one, most}, {most, least, one, least}, {least, most, 0, least}, {most, least, 0, most},
		{least, most, one / 2, 0}, {most, least, one / 2, 0}, {least, most, 1, least + one},
		{most, least, 1, most - one}, {least, most, one - 1, most - one}, {0, least, one, least},
		{-1, most, one, most}, {1, least, one, least}, {least, 0, one / 2, least / 2},
	} {
		if got := Between(x.a, x.b, x.t); got != x.want {
			t.Errorf("Between(%d, %d, %d) = %d, want %d", x.a, x.b, x.t, got, x.want)
		}
	}
}

func between(a, b, t int32) int32 {
	way := new(big.Int).Sub(wide(b), wide(a))
	way.Mul(way, wide(max(0, min(one, t))))
	return nearest32(way.Add(halvesUp(way), wide(a)))
}

// P10.
func TestBetweenEverywhere(t *testing.T) {
	check := func(a, b, part int32) {
		got := Between(a, b, part)
		if want := between(a, b, part); got != want {
			t.Fatalf("Between(%d, %d, %d) = %d, want %d", a, b, part, got, want)
		}
		if got < min(a, b) || got > max(a, b) {
			t.Fatalf("Between(%d, %d, %d) = %d is not between them", a, b, part, got)
		}
	}
	for _, a := range edges {
		for _, b := range edges {
			for _, part := range edges {
				check(a, b, part)
			}
		}
		for part := int32(0); part <= one; part += 97 {
			check(a, 7*one/3, part)
			check(most-5, a, part)
		}
	}
}

// P2: nothing is kept from call to call.
func TestNothingIsKept(t *testing.T) {
	all := func() [6]int64 {
		r, _ := Sqrt(3 * one)
		return [6]int64{
			int64(Mul(3, one/2)), int64(Div(one, 3)), int64(Round(3 * one / 2)),
			int64(Of(9)), int64(r), int64(Between(0, 3, one/2)),
		}
	}
	first := all()
	for _, a := range edges {
		Mul(a, a)
		Div(a, 0)
		Round(a)
		Of(int(a))
		Sqrt(a)
		Between(a, -a, a)
		if again := all(); again != first {
			t.Fatalf("told %v and then %v", first, again)
		}
	}
}
