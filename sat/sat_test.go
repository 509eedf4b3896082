package sat

import (
	"math"
	"math/big"
	"slices"
	"testing"

	"steadyhand/api"
)

// edges are the numbers at and beside which a type ends or a sign turns.
var edges = []int32{
	math.MinInt32, math.MinInt32 + 1, math.MinInt32 / 2, -65537, -65536, -65535,
	-32769, -32768, -32767, -256, -3, -2, -1, 0, 1, 2, 3, 255, 32766, 32767, 32768,
	65534, 65535, 65536, math.MaxInt32/2 + 1, math.MaxInt32 - 1, math.MaxInt32,
}

// nearest works on numbers without end, so that it can't go round itself.
func nearest(n *big.Int, low, high int64) int64 {
	if n.Cmp(big.NewInt(low)) < 0 {
		return low
	}
	if n.Cmp(big.NewInt(high)) > 0 {
		return high
	}
	return n.Int64()
}

func nearest32(n *big.Int) int32 {
	return int32(nearest(n, math.MinInt32, math.MaxInt32))
}

func wide(n int32) *big.Int { return big.NewInt(int64(n)) }

// P3.
func TestTo32(t *testing.T) {
	for _, x := range []struct {
		n    int64
		want int32
	}{
		{0, 0}, {7, 7}, {-7, -7},
		{math.MaxInt32 - 1, math.MaxInt32 - 1},
		{math.MaxInt32, math.MaxInt32},
		{math.MaxInt32 + 1, math.MaxInt32},
		{math.MinInt32 + 1, math.MinInt32 + 1},
		{math.MinInt32, math.MinInt32},
		{math.MinInt32 - 1, math.MinInt32},
		{1 << 32, math.MaxInt32}, {-1 << 32, math.MinInt32},
		{math.MaxInt64, math.MaxInt32}, {math.MinInt64, math.MinInt32},
	} {
		if got := To32(x.n); got != x.want {
			t.Errorf("To32(%d) = %d, want %d", x.n, got, x.want)
		}
	}
}

// P3.
func TestTo16(t *testing.T) {
	for _, x := range []struct {
		n    int32
		want int16
	}{
		{0, 0}, {7, 7}, {-7, -7},
		{32766, 32766}, {32767, 32767}, {32768, 32767},
		{-32767, -32767}, {-32768, -32768}, {-32769, -32768},
		{65536, 32767}, {-65536, -32768},
		{math.MaxInt32, 32767}, {math.MinInt32, -32768},
	} {
		if got := To16(x.n); got != x.want {
			t.Errorf("To16(%d) = %d, want %d", x.n, got, x.want)
		}
	}
}

// P3.
func TestWord(t *testing.T) {
	for _, x := range []struct {
		n    int32
		want uint16
	}{
		{0, 0}, {1, 1}, {-1, 0}, {7, 7}, {-7, 0},
		{32768, 32768}, {65534, 65534}, {65535, 65535}, {65536, 65535},
		{math.MaxInt32, 65535}, {math.MinInt32, 0},
	} {
		if got := Word(x.n); got != x.want {
			t.Errorf("Word(%d) = %d, want %d", x.n, got, x.want)
		}
	}
}

// P4.
func TestAddSub(t *testing.T) {
	for _, a := range edges {
		for _, b := range edges {
			if got, want := Add(a, b), nearest32(new(big.Int).Add(wide(a), wide(b))); got != want {
				t.Errorf("Add(%d, %d) = %d, want %d", a, b, got, want)
			}
			if got, want := Sub(a, b), nearest32(new(big.Int).Sub(wide(a), wide(b))); got != want {
				t.Errorf("Sub(%d, %d) = %d, want %d", a, b, got, want)
			}
		}
	}
}

// P4: the document's example, and those that stand by themselves.
func TestAddSubByHand(t *testing.T) {
	for _, x := range []struct{ got, want int32 }{
		{Add(math.MaxInt32, 1), math.MaxInt32},
		{Add(math.MaxInt32, math.MaxInt32), math.MaxInt32},
		{Add(math.MinInt32, -1), math.MinInt32},
		{Add(math.MinInt32, math.MaxInt32), -1},
		{Add(-3, 5), 2},
		{Sub(math.MinInt32, 1), math.MinInt32},
		{Sub(0, math.MinInt32), math.MaxInt32},
		{Sub(-1, math.MinInt32), math.MaxInt32},
		{Sub(math.MinInt32, math.MinInt32), 0},
		{Sub(3, 5), -2},
	} {
		if x.got != x.want {
			t.Errorf("got %d, want %d", x.got, x.want)
		}
	}
}

// P4.
func TestNegAbs(t *testing.T) {
	for _, a := range edges {
		if got, want := Neg(a), nearest32(new(big.Int).Neg(wide(a))); got != want {
			t.Errorf("Neg(%d) = %d, want %d", a, got, want)
		}
		if got, want := Abs(a), nearest32(new(big.Int).Abs(wide(a))); got != want {
			t.Errorf("Abs(%d) = %d, want %d", a, got, want)
		}
	}
	if Neg(math.MinInt32) != math.MaxInt32 || Abs(math.MinInt32) != math.MaxInt32 {
		t.Error("the least number has no other sign but the greatest number")
	}
	if Neg(4) != -4 || Neg(-4) != 4 || Abs(4) != 4 || Abs(-4) != 4 || Neg(0) != 0 || Abs(0) != 0 {
		t.Error("ordinary signs")
	}
}

// P5.
func TestShift(t *testing.T) {
	for _, a := range edges {
		for n := -40; n <= 40; n++ {
			if got, want := Shift(a, n), shifted(a, n); got != want {
				t.Errorf("Shift(%d, %d) = %d, want %d", a, n, got, want)
			}
		}
	}
}

// shifted rounds down by dividing with the rest that is not below 0.
func shifted(a int32, n int) int32 {
	n = max(-31, min(31, n))
	two := new(big.Int).Lsh(big.NewInt(1), uint(max(n, -n)))
	if n < 0 {
		return nearest32(new(big.Int).Div(wide(a), two))
	}
	return nearest32(new(big.Int).Mul(wide(a), two))
}

// P5: no n is too great or too small.
func TestShiftFar(t *testing.T) {
	for _, x := range []struct {
		a    int32
		n    int
		want int32
	}{
		{3, 2, 12}, {7, 0, 7}, {-3, -1, -2}, {3, -1, 1},
		{1, 30, 1 << 30}, {1, 31, math.MaxInt32}, {-1, 31, math.MinInt32}, {-1, 30, -1 << 30},
		{1, 32, math.MaxInt32}, {1, 64, math.MaxInt32}, {2, 63, math.MaxInt32},
		{0, math.MaxInt, 0}, {1, math.MaxInt, math.MaxInt32}, {-1, math.MaxInt, math.MinInt32},
		{0, math.MinInt, 0}, {1, math.MinInt, 0}, {-1, math.MinInt, -1},
		{1, 1 << 32, math.MaxInt32}, {5, -1 << 32, 0}, {-5, -1 << 32, -1},
		{math.MaxInt32, -31, 0}, {math.MinInt32, -31, -1}, {math.MinInt32, -32, -1},
		{math.MaxInt32, -30, 1}, {math.MinInt32, -30, -2}, {math.MinInt32, 31, math.MinInt32},
	} {
		if got := Shift(x.a, x.n); got != x.want {
			t.Errorf("Shift(%d, %d) = %d, want %d", x.a, x.n, got, x.want)
		}
	}
}

// P5.
func TestClamp(t *testing.T) {
	for _, x := range []struct{ a, low, high, want int32 }{
		{3, 1, 5, 3}, {9, 1, 5, 5}, {0, 1, 5, 1}, {1, 1, 5, 1}, {5, 1, 5, 5},
		{3, 5, 1, 3}, {9, 5, 1, 5}, {0, 5, 1, 1}, {1, 5, 1, 1}, {5, 5, 1, 5},
		{-9, 4, 4, 4}, {9, 4, 4, 4}, {4, 4, 4, 4},
		{-3, -5, -1, -3}, {0, -5, -1, -1}, {-9, -1, -5, -5},
		{math.MinInt32, math.MinInt32, math.MaxInt32, math.MinInt32},
		{math.MaxInt32, math.MaxInt32, math.MinInt32, math.MaxInt32},
		{math.MinInt32, 0, math.MaxInt32, 0}, {math.MaxInt32, math.MinInt32, 0, 0},
	} {
		if got := Clamp(x.a, x.low, x.high); got != x.want {
			t.Errorf("Clamp(%d, %d, %d) = %d, want %d", x.a, x.low, x.high, got, x.want)
		}
	}
}

// P5: a clamp is the middle one of the three.
func TestClampIsTheMiddle(t *testing.T) {
	for _, a := range edges {
		for _, low := range edges {
			for _, high := range edges {
				three := []int32{a, low, high}
				slices.Sort(three)
				if got := Clamp(a, low, high); got != three[1] {
					t.Fatalf("Clamp(%d, %d, %d) = %d, want %d", a, low, high, got, three[1])
				}
			}
		}
	}
}

func times(many int, n int32) []int32 { return slices.Repeat([]int32{n}, many) }

// P6.
func TestSum(t *testing.T) {
	const most, least = math.MaxInt32, math.MinInt32
	for _, x := range []struct {
		l    []int32
		want int32
	}{
		{nil, 0}, {[]int32{}, 0}, {[]int32{-7}, -7}, {[]int32{1, 2, -5}, -2},
		{[]int32{most}, most}, {[]int32{least}, least},
		{[]int32{most, 1}, most}, {[]int32{least, -1}, least},
		{[]int32{most, 1, -2}, most - 1}, {[]int32{least, -1, 2}, least + 1},
		{[]int32{most, most, -most}, most}, {[]int32{most, most, -most, -most, 3}, 3},
		{[]int32{least, least, most, most, 5}, 3},
		{times(64, 1), 64}, {times(64, most), most}, {times(64, least), least},
		{append(times(32, most), times(32, -most)...), 0},
	} {
		if got, e := Sum(x.l); got != x.want || e != api.OK {
			t.Errorf("Sum(%v) = %d, %d, want %d, OK", x.l, got, e, x.want)
		}
	}
}

// P6.
func TestSumTooLarge(t *testing.T) {
	for _, many := range []int{65, 66, 128, 1000} {
		for _, n := range []int32{0, 1, math.MaxInt32, math.MinInt32} {
			if got, e := Sum(times(many, n)); got != 0 || e != api.ErrLarge {
				t.Errorf("Sum of %d times %d = %d, %d, want 0, ErrLarge", many, n, got, e)
			}
		}
	}
}

// P2: what is handed in stays, the memory behind the list too.
func TestSumChangesNothing(t *testing.T) {
	for _, many := range []int{0, 3, 64, 65} {
		whole := make([]int32, many+8)
		for i := range whole {
			whole[i] = int32(i*i) - 9
		}
		was := slices.Clone(whole)
		first, firstErr := Sum(whole[:many])
		again, againErr := Sum(whole[:many])
		if !slices.Equal(whole, was) {
			t.Errorf("Sum of %d numbers changed what was handed in", many)
		}
		if first != again || firstErr != againErr {
			t.Errorf("Sum of %d numbers told %d, %d and then %d, %d", many, first, firstErr, again, againErr)
		}
	}
}
