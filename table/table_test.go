package table

import (
	"math"
	"math/big"
	"slices"
	"testing"

	"steadyhand/api"
)

const (
	most  = math.MaxInt32
	least = math.MinInt32
)

// points makes a table of x, y, x, y and so on.
func points(l ...int32) api.Table {
	var t api.Table
	for k := 0; k+1 < len(l); k += 2 {
		t.X = append(t.X, l[k])
		t.Y = append(t.Y, l[k+1])
	}
	return t
}

// run is many numbers, a step apart.
func run(many int, first, step int32) []int32 {
	l := make([]int32, many)
	for k := range l {
		l[k] = first + int32(k)*step
	}
	return l
}

// swapped is l with numbers k and k+1 exchanged.
func swapped(l []int32, k int) []int32 {
	l = slices.Clone(l)
	l[k], l[k+1] = l[k+1], l[k]
	return l
}

// right are tables that Check has nothing against, and that all calls are tried on.
func right() []api.Table {
	return []api.Table{
		points(0, 0), points(-7, 9), points(most, least), points(least, most),
		points(0, 0, 4, 8), points(0, 8, 4, 0), points(0, 3, 1, 4), points(0, 5, 9, 5),
		points(0, 0, 4, 8, 10, -1), points(-10, 7, -3, 0, 5, 1, 6, -9),
		points(0, 0, 3, 1), points(0, 1, 3, 0), points(-5, -2, 2, 0), points(-5, 0, 2, -2),
		points(least, least, most, most), points(least, most, most, least),
		points(least, 0, 0, most, most, least), points(least, least, -1, most, 0, least, most, most),
		points(least, 5, least+1, -5), points(most-1, least, most, most), points(most-1, most, most, least),
		points(least+1, least, most, most), points(least, least, most, most-1),
		{X: run(64, -100, 3), Y: run(64, 50, -7)}, {X: run(64, least, 1<<26-1), Y: run(64, least, 1<<26-3)},
		{X: run(63, 0, 1), Y: run(63, -9, 11)},
	}
}

// wrong are tables, and what Check has against them.
func wrong() []struct {
	t    api.Table
	want api.Errno
} {
	rising := run(64, 1, 2)
	return []struct {
		t    api.Table
		want api.Errno
	}{
		// More than there may be, whatever else is wrong.
		{api.Table{X: run(65, 0, 1), Y: run(65, 0, 1)}, api.ErrLarge},
		{api.Table{X: run(65, 0, 1), Y: run(64, 0, 1)}, api.ErrLarge},
		{api.Table{X: run(65, 0, 1)}, api.ErrLarge},
		{api.Table{X: run(65, 0, 0), Y: run(65, 0, 1)}, api.ErrLarge},
		{api.Table{X: run(65, 0, -1), Y: run(3, 0, 1)}, api.ErrLarge},
		{api.Table{X: run(1000, 0, 1), Y: run(1000, 0, 1)}, api.ErrLarge},
		// None.
		{api.Table{}, api.ErrForm},
		{api.Table{X: []int32{}, Y: []int32{}}, api.ErrForm},
		{api.Table{Y: []int32{1}}, api.ErrForm},
		{api.Table{Y: run(65, 0, 1)}, api.ErrForm},
		// Not as many Y.
		{api.Table{X: []int32{1}}, api.ErrForm},
		{api.Table{X: []int32{1, 2}, Y: []int32{1}}, api.ErrForm},
		{api.Table{X: []int32{1, 2}, Y: []int32{1, 2, 3}}, api.ErrForm},
		{api.Table{X: rising, Y: run(63, 0, 1)}, api.ErrForm},
		{api.Table{X: rising, Y: run(65, 0, 1)}, api.ErrForm},
		{api.Table{X: []int32{1}, Y: run(1000, 0, 1)}, api.ErrForm},
		// X that don't rise.
		{points(1, 1, 1, 1), api.ErrForm},
		{points(1, 1, 1, 2), api.ErrForm},
		{points(2, 1, 1, 2), api.ErrForm},
		{points(most, 0, least, 1), api.ErrForm},
		{points(0, 0, 1, 1, 1, 2), api.ErrForm},
		{points(0, 0, 0, 1, 1, 2), api.ErrForm},
		{points(0, 0, 5, 1, 4, 2, 9, 3), api.ErrForm},
		{points(least, 0, least, 1), api.ErrForm},
		{api.Table{X: swapped(rising, 0), Y: rising}, api.ErrForm},
		{api.Table{X: swapped(rising, 31), Y: rising}, api.ErrForm},
		{api.Table{X: swapped(rising, 62), Y: rising}, api.ErrForm},
	}
}

// P11.
func TestCheck(t *testing.T) {
	for _, a := range right() {
		if e := Check(a); e != api.OK {
			t.Errorf("Check(%v) = %d, want OK", a, e)
		}
	}
	for _, x := range wrong() {
		if e := Check(x.t); e != x.want {
			t.Errorf("Check(%v) = %d, want %d", x.t, e, x.want)
		}
	}
}

// P12 and P13: Check's error is the first one, and nothing is told beside it.
func TestWrongTables(t *testing.T) {
	for _, a := range wrong() {
		for _, n := range []int32{least, -1, 0, 1, 2, most} {
			if got, e := At(a.t, n); got != 0 || e != a.want {
				t.Errorf("At(%v, %d) = %d, %d, want 0, %d", a.t, n, got, e, a.want)
			}
			if got, e := Back(a.t, n); got != 0 || e != a.want {
				t.Errorf("Back(%v, %d) = %d, %d, want 0, %d", a.t, n, got, e, a.want)
			}
		}
		if got, e := Turn(a.t); len(got.X) != 0 || len(got.Y) != 0 || e != a.want {
			t.Errorf("Turn(%v) = %v, %d, want none, %d", a.t, got, e, a.want)
		}
	}
}

// P12.
func TestAt(t *testing.T) {
	hill := points(0, 0, 4, 8, 10, -1)
	full := points(least, least, most, most)
	fall := points(least, most, most, least)
	for _, x := range []struct {
		t       api.Table
		x, want int32
	}{
		{hill, least, 0}, {hill, -5, 0}, {hill, -1, 0}, {hill, 0, 0}, {hill, 1, 2}, {hill, 3, 6}, {hill, 4, 8},
		{hill, 5, 6}, {hill, 6, 5}, {hill, 7, 3}, {hill, 9, 0}, {hill, 10, -1}, {hill, 11, -1}, {hill, most, -1},
		// One point is the same everywhere.
		{points(7, -3), least, -3}, {points(7, -3), 6, -3}, {points(7, -3), 7, -3}, {points(7, -3), 8, -3},
		{points(7, -3), most, -3}, {points(least, 4), least, 4}, {points(most, 4), most, 4},
		// Rounded down, whichever way the line goes and on whichever side of 0.
		{points(0, 0, 3, 1), 1, 0}, {points(0, 0, 3, 1), 2, 0}, {points(0, 0, 3, -1), 1, -1}, {points(0, 0, 3, -1), 2, -1},
		{points(0, 1, 3, 0), 1, 0}, {points(0, 1, 3, 0), 2, 0}, {points(0, -1, 3, 0), 1, -1}, {points(0, -1, 3, 0), 2, -1},
		{points(0, -5, 2, -4), 1, -5}, {points(0, -4, 2, -5), 1, -5}, {points(-4, 0, 0, -6), -2, -3},
		{points(0, 5, 9, 5), 4, 5},
		// Differences that 32 bits don't hold, products that 63 don't.
		{full, least, least}, {full, least + 1, least + 1}, {full, -1, -1}, {full, 0, 0}, {full, 12345, 12345},
		{full, most - 1, most - 1}, {full, most, most},
		{fall, least, most}, {fall, least + 1, most - 1}, {fall, -1, 0}, {fall, 0, -1}, {fall, 12345, -12346},
		{fall, most - 1, least + 1}, {fall, most, least},
		{points(least, least, most, most-1), most - 1, most - 2}, {points(least, most-1, most, least), most - 1, least},
		{points(0, most, most, least), most - 1, least + 2}, {points(0, least, most, most), most - 1, most - 3},
		{points(most-1, least, most, most), most - 1, least}, {points(least, 5, least+1, -5), least + 1, -5},
	} {
		if got, e := At(x.t, x.x); got != x.want || e != api.OK {
			t.Errorf("At(%v, %d) = %d, %d, want %d, OK", x.t, x.x, got, e, x.want)
		}
	}
}

// line is what stands in P12, in numbers without end.
func line(t api.Table, x int32) int32 {
	k := len(t.X) - 1
	for k >= 0 && t.X[k] > x {
		k--
	}
	if k < 0 {
		return t.Y[0]
	}
	if k == len(t.X)-1 {
		return t.Y[k]
	}
	minus := func(a, b int32) *big.Int { return new(big.Int).Sub(big.NewInt(int64(a)), big.NewInt(int64(b))) }
	n := new(big.Int).Mul(minus(x, t.X[k]), minus(t.Y[k+1], t.Y[k]))
	by := minus(t.X[k+1], t.X[k])
	// By a number above 0 Div rounds down.
	return int32(n.Div(n, by).Int64() + int64(t.Y[k]))
}

// places are numbers at, beside and between those of l, and all over the type.
func places(l []int32) []int32 {
	p := []int32{least, least + 1, -1, 0, 1, most - 1, most}
	add := func(n int64) { p = append(p, int32(min(max(n, least), most))) }
	for k, n := range l {
		for d := int64(-3); d <= 3; d++ {
			add(int64(n) + d)
		}
		if k > 0 {
			for part := range int64(10) {
				add(int64(l[k-1]) + (int64(n)-int64(l[k-1]))*part/10)
			}
		}
	}
	for n := int64(least); n <= most; n += 50_000_017 {
		add(n)
	}
	return p
}

// P12.
func TestAtEverywhere(t *testing.T) {
	for _, a := range right() {
		for _, x := range places(a.X) {
			if got, e := At(a, x); got != line(a, x) || e != api.OK {
				t.Fatalf("At(%v, %d) = %d, %d, want %d, OK", a, x, got, e, line(a, x))
			}
		}
	}
}

// P12: lines between all ends, where the products are greatest.
func TestAtEnds(t *testing.T) {
	ends := []int32{least, least + 1, least + 2, least / 2, -2, -1, 0, 1, 2, most / 2, most - 2, most - 1, most}
	for i, from := range ends {
		for _, to := range ends[i+1:] {
			for _, y := range ends {
				for _, next := range ends {
					a := points(from, y, to, next)
					for _, x := range ends {
						if got, e := At(a, x); got != line(a, x) || e != api.OK {
							t.Fatalf("At(%v, %d) = %d, %d, want %d, OK", a, x, got, e, line(a, x))
						}
					}
				}
			}
		}
	}
}

// P13.
func TestBack(t *testing.T) {
	a := points(0, 0, 4, 8, 10, 9)
	full := points(least, least, most, most)
	for _, x := range []struct {
		t       api.Table
		y, want int32
	}{
		{a, least, 0}, {a, -1, 0}, {a, 0, 0}, {a, 1, 0}, {a, 2, 1}, {a, 7, 3}, {a, 8, 4}, {a, 9, 10}, {a, 10, 10}, {a, most, 10},
		{points(7, -3), least, 7}, {points(7, -3), -3, 7}, {points(7, -3), most, 7},
		{points(-5, 0, -4, 2), 1, -5}, {points(-1, 0, 0, 3), 2, -1},
		{full, least, least}, {full, -1, -1}, {full, 12345, 12345}, {full, most, most},
	} {
		if got, e := Back(x.t, x.y); got != x.want || e != api.OK {
			t.Errorf("Back(%v, %d) = %d, %d, want %d, OK", x.t, x.y, got, e, x.want)
		}
	}
}

// P13.
func TestBackNotRising(t *testing.T) {
	x := run(64, 0, 1)
	y := run(64, -50, 2)
	for _, a := range []api.Table{
		points(0, 0, 4, 8, 10, -1), points(0, 5, 1, 5), points(0, 5, 1, 4), points(0, 0, 1, 1, 2, 1),
		points(0, 0, 1, 0, 2, 1), points(0, most, 1, least), points(least, most, most, least),
		{X: x, Y: swapped(y, 0)}, {X: x, Y: swapped(y, 30)}, {X: x, Y: swapped(y, 62)},
	} {
		for _, n := range places(a.Y[:2]) {
			if got, e := Back(a, n); got != 0 || e != api.ErrArg {
				t.Fatalf("Back(%v, %d) = %d, %d, want 0, ErrArg", a, n, got, e)
			}
		}
	}
}

// P13.
func TestBackEverywhere(t *testing.T) {
	for _, a := range right() {
		if e := Check(api.Table{X: a.Y, Y: a.X}); e != api.OK {
			continue
		}
		for _, y := range places(a.Y) {
			want := line(api.Table{X: a.Y, Y: a.X}, y)
			if got, e := Back(a, y); got != want || e != api.OK {
				t.Fatalf("Back(%v, %d) = %d, %d, want %d, OK", a, y, got, e, want)
			}
		}
		for k, y := range a.Y {
			if got, e := Back(a, y); got != a.X[k] || e != api.OK {
				t.Fatalf("Back(%v, %d) = %d, %d, want %d, OK", a, y, got, e, a.X[k])
			}
		}
	}
}

func same(a, b api.Table) bool { return slices.Equal(a.X, b.X) && slices.Equal(a.Y, b.Y) }

// P13.
func TestTurn(t *testing.T) {
	for _, x := range []struct{ t, want api.Table }{
		{points(0, 0, 4, 8, 10, -1), points(-10, -1, -4, 8, 0, 0)},
		{points(7, -3), points(-7, -3)}, {points(0, 5), points(0, 5)}, {points(most, least), points(-most, least)},
		{points(-2, 1, 3, 9), points(-3, 9, 2, 1)},
		{points(least+1, least, most, most), points(-most, most, most, least)},
		{points(least+1, 4), points(most, 4)},
		{api.Table{X: run(64, -9, 2), Y: run(64, 5, 3)}, api.Table{X: run(64, -117, 2), Y: run(64, 194, -3)}},
	} {
		got, e := Turn(x.t)
		if !same(got, x.want) || e != api.OK {
			t.Errorf("Turn(%v) = %v, %d, want %v, OK", x.t, got, e, x.want)
		}
		again, e := Turn(got)
		if !same(again, x.t) || e != api.OK {
			t.Errorf("Turn(%v) = %v, %d, want %v, OK", got, again, e, x.t)
		}
	}
}

// P13: the least number has no other side.
func TestTurnLeast(t *testing.T) {
	for _, a := range []api.Table{
		points(least, 0), points(least, least, most, most), points(least, 5, least+1, -5),
		{X: run(64, least, 1), Y: run(64, 0, 0)},
	} {
		if got, e := Turn(a); got.X != nil || got.Y != nil || e != api.ErrArg {
			t.Errorf("Turn(%v) = %v, %d, want none, ErrArg", a, got, e)
		}
	}
}

// spare puts 8 numbers of memory behind l, and tells l and all of it.
func spare(l []int32) (short, whole []int32) {
	whole = append(slices.Clone(l), run(8, 1000, -7)...)
	return whole[:len(l)], whole
}

// P2: what is handed in stays, the memory behind the lists too, and what is told
// again is the same.
func TestNothingIsChanged(t *testing.T) {
	tables := right()
	for _, x := range wrong() {
		tables = append(tables, x.t)
	}
	for _, a := range tables {
		x, wholeX := spare(a.X)
		y, wholeY := spare(a.Y)
		wasX, wasY := slices.Clone(wholeX), slices.Clone(wholeY)
		in := api.Table{X: x, Y: y}
		at, _ := At(in, 3)
		back, _ := Back(in, 3)
		turned, _ := Turn(in)
		if !slices.Equal(wholeX, wasX) || !slices.Equal(wholeY, wasY) {
			t.Errorf("%v was changed", a)
		}
		atAgain, _ := At(in, 3)
		backAgain, _ := Back(in, 3)
		turnedAgain, _ := Turn(in)
		if at != atAgain || back != backAgain || !same(turned, turnedAgain) {
			t.Errorf("of %v it told %d, %d, %v and then %d, %d, %v", a, at, back, turned, atAgain, backAgain, turnedAgain)
		}
	}
}

// fill writes n all over l and the memory behind it.
func fill(l []int32, n int32) {
	l = l[:cap(l)]
	for k := range l {
		l[k] = n
	}
}

// P2: Turn tells two lists of new memory.
func TestTurnIsNew(t *testing.T) {
	for _, a := range []api.Table{
		points(7, -3), points(0, 5), points(0, 0, 4, 8, 10, -1), points(-1, 2, 0, 2, 1, 2),
		{X: run(64, -9, 2), Y: run(64, 5, 3)},
	} {
		x, wholeX := spare(a.X)
		y, wholeY := spare(a.Y)
		wasX, wasY := slices.Clone(wholeX), slices.Clone(wholeY)
		got, _ := Turn(api.Table{X: x, Y: y})
		other, _ := Turn(api.Table{X: x, Y: y})
		want := slices.Clone(other.X)
		fill(got.Y, 77)
		if !slices.Equal(got.X, want) {
			t.Errorf("Turn(%v): X and Y share memory", a)
		}
		fill(got.X, 99)
		if !slices.Equal(wholeX, wasX) || !slices.Equal(wholeY, wasY) {
			t.Errorf("Turn(%v) shares memory with what was handed in", a)
		}
		if !slices.Equal(other.X, want) {
			t.Errorf("Turn(%v) shares memory with what it told ahead of it", a)
		}
	}
	one := points(1, 1, 2, 4)
	// The same list as X and Y.
	got, e := Turn(api.Table{X: one.X, Y: one.X})
	if !same(got, points(-2, 2, -1, 1)) || e != api.OK {
		t.Errorf("Turn of one list twice = %v, %d", got, e)
	}
}
