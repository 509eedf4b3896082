package servo

import (
	"math"
	"math/big"
	"math/rand"
	"slices"
	"testing"

	"steadyhand/api"
)

const (
	one   = 65536
	least = math.MinInt32
	most  = math.MaxInt32
)

// edges are the numbers at and beside which a type ends, a point stands or a
// sign turns.
var edges = []int32{
	least, least + 1, least / 2, -one - 1, -one, -one + 1, -one / 2, -2, -1,
	0, 1, 2, one / 2, one - 1, one, one + 1, most/2 + 1, most - 1, most,
}

// few of them, where each is tried beside each.
var few = []int32{least, -one, -1, 0, 1, one / 2, most}

// notSofts are numbers that are no servo's Soft, some of which have one in their
// lower bits.
var notSofts = []int{
	-1, 31, 32, 33, -2, -30, -31, -32, 63, 64, 255, 256, 260, -252, 65536, 65540, 1 << 31, 1 << 32, 1<<32 + 4, 4 - 1<<32, -1 << 32, math.MaxInt, math.MinInt, math.MinInt + 4,
}

// nearest to n of what 32 bits hold, from a number without end.
func nearest(n *big.Int) int32 {
	if n.Cmp(big.NewInt(least)) < 0 {
		return least
	}
	if n.Cmp(big.NewInt(most)) > 0 {
		return most
	}
	return int32(n.Int64())
}

func wide(n int32) *big.Int { return big.NewInt(int64(n)) }

func together(a, b int32) *big.Int { return new(big.Int).Add(wide(a), wide(b)) }

func plus(a, b int32) int32 { return nearest(together(a, b)) }

func less(a, b int32) int32 { return nearest(new(big.Int).Sub(wide(a), wide(b))) }

// times rounds to the nearest, halves up: twice the product, and one half more,
// rounded down.
func times(a, b int32) int32 {
	twice := new(big.Int).Mul(wide(a), wide(b))
	twice.Lsh(twice, 1)
	twice.Add(twice, big.NewInt(one))
	return nearest(twice.Div(twice, big.NewInt(2*one)))
}

// by rounds toward 0; it is never asked for a quotient by 0.
func by(a, b int32) int32 {
	n := new(big.Int).Mul(wide(a), big.NewInt(one))
	return nearest(n.Quo(n, wide(b)))
}

func between(n, low, high int32) int32 {
	three := []int32{n, low, high}
	slices.Sort(three)
	return three[1]
}

// workedSense goes word by word through the promise, of a right sensor.
func workedSense(a, b int32, s api.Sensor) (int32, bool) {
	both := together(a, b)
	far := new(big.Int).Sub(both, wide(s.Sum))
	if both.Sign() < 1 || far.Abs(far).Cmp(wide(s.Wide)) > 0 {
		return 0, false
	}
	return times(by(less(a, b), nearest(both)), s.Full), true
}

// workedGoal goes toward what is wanted, but no farther than rate.
func workedGoal(goal, want, rate int32) int32 {
	return between(want, less(goal, rate), plus(goal, rate))
}

// workedPid goes word by word through what chapter 12 says of a step.
func workedPid(g api.Gain, s api.Pid, err int32) (api.Pid, int32) {
	sum := between(plus(s.Sum, times(g.I, err)), g.Low, g.High)
	out := plus(times(g.P, err), sum)
	out = plus(out, times(g.D, less(err, s.Last)))
	kept := api.Pid{Sum: sum, Last: err}
	if out > g.High && sum > s.Sum {
		kept.Sum = s.Sum
	}
	if out < g.Low && sum < s.Sum {
		kept.Sum = s.Sum
	}
	return kept, between(out, g.Low, g.High)
}

// workedValve goes word by word through what chapter 4 says of Low.
func workedValve(y, x int32, bits int) int32 {
	way := new(big.Int).Sub(wide(x), wide(y))
	part := new(big.Int).Quo(way, new(big.Int).Lsh(big.NewInt(1), uint(bits)))
	if part.Sign() == 0 {
		part = big.NewInt(int64(way.Sign()))
	}
	return nearest(part.Add(part, wide(y)))
}

// worked goes word by word through the promise, of what Check lets through.
func worked(c api.Servo, s api.Drive, want, pos int32) api.Drive {
	goal := workedGoal(s.Goal, want, c.Rate)
	kept, out := workedPid(c.Gain, s.Pid, less(goal, pos))
	return api.Drive{Goal: goal, Pid: kept, Valve: workedValve(s.Valve, out, c.Soft)}
}

func mustSense(t *testing.T, a, b int32, s api.Sensor, want int32, valid bool) {
	t.Helper()
	if got, ok, e := Sense(a, b, s); got != want || ok != valid || e != api.OK {
		t.Fatalf("Sense(%d, %d, %+v) = %d, %t, %d, want %d, %t, OK", a, b, s, got, ok, e, want, valid)
	}
}

// mustBlind of what is not valid.
func mustBlind(t *testing.T, a, b int32, s api.Sensor) {
	t.Helper()
	mustSense(t, a, b, s, 0, false)
}

// mustStep tells the new Valve beside what is kept.
func mustStep(t *testing.T, c api.Servo, s api.Drive, want, pos int32, kept api.Drive) {
	t.Helper()
	if got, valve, e := Step(c, s, want, pos); got != kept || valve != kept.Valve || e != api.OK {
		t.Fatalf("Step(%+v, %+v, %d, %d) = %+v, %d, %d, want %+v, its Valve, OK", c, s, want, pos, got, valve, e, kept)
	}
}

func mustWork(t *testing.T, c api.Servo, s api.Drive, want, pos int32) {
	t.Helper()
	mustStep(t, c, s, want, pos, worked(c, s, want, pos))
}

// someNumber is near to 0, an edge, or of any length.
func someNumber(r *rand.Rand) int32 {
	switch r.Intn(3) {
	case 0:
		return int32(r.Intn(41) - 20)
	case 1:
		return edges[r.Intn(len(edges))]
	default:
		return int32(r.Uint32()) >> r.Intn(32)
	}
}

// someServo with a Drive that Check lets through.
func someServo(r *rand.Rand) (api.Servo, api.Drive) {
	three := []int32{someNumber(r), someNumber(r), someNumber(r)}
	slices.Sort(three)
	g := api.Gain{P: someNumber(r), I: someNumber(r), D: someNumber(r), Low: three[0], High: three[2]}
	c := api.Servo{Rate: someNumber(r) & most, Soft: r.Intn(31), Gain: g}
	return c, api.Drive{Goal: someNumber(r), Pid: api.Pid{Sum: three[1], Last: someNumber(r)}, Valve: someNumber(r)}
}

// someSensor that is a right one, and two coils, mostly such as fit it.
func someSensor(r *rand.Rand) (int32, int32, api.Sensor) {
	s := api.Sensor{Sum: max(someNumber(r)&most, 1), Wide: someNumber(r) & most, Full: someNumber(r) & most}
	a := someNumber(r)
	switch r.Intn(3) {
	case 0:
		return a, someNumber(r), s
	case 1:
		return a, less(s.Sum, a), s
	default:
		return a, plus(less(s.Sum, a), someNumber(r)), s
	}
}

func wrongSensors() []api.Sensor {
	var l []api.Sensor
	for _, bad := range []int32{-1, -2, -one, least, least + 1} {
		for _, n := range []int32{0, 1, 8, one, most} {
			sum := max(n, 1)
			l = append(l, api.Sensor{Sum: bad, Wide: n, Full: n}, api.Sensor{Sum: sum, Wide: bad, Full: n}, api.Sensor{Sum: sum, Wide: n, Full: bad})
			l = append(l, api.Sensor{Wide: n, Full: n}, api.Sensor{Sum: sum, Wide: bad, Full: bad})
		}
		l = append(l, api.Sensor{Sum: bad, Wide: bad, Full: bad}, api.Sensor{Wide: bad}, api.Sensor{Full: bad})
	}
	return l
}

type pair struct {
	c api.Servo
	s api.Drive
}

// wrong are pairs of which Check tells ErrArg: a wrong Rate, a wrong Soft, a Pid
// whose Sum is outside of its bounds, each by itself, and together.
func wrong() []pair {
	var l []pair
	g := api.Gain{P: one, I: one, D: one, Low: -9, High: 9}
	for _, rate := range []int32{-1, -2, -one, least, least + 1} {
		for _, soft := range []int{0, 1, 29, 30} {
			l = append(l, pair{api.Servo{Rate: rate, Soft: soft, Gain: g}, api.Drive{}})
		}
	}
	for _, soft := range notSofts {
		for _, rate := range []int32{0, 1, one, most} {
			l = append(l, pair{api.Servo{Rate: rate, Soft: soft, Gain: g}, api.Drive{}})
		}
	}
	for _, x := range [][3]int32{
		{1, 0, 2}, {-2, 0, -1}, {-9, 10, 9}, {-9, -10, 9}, {-9, most, 9}, {-9, least, 9}, {5, 4, 5}, {5, 6, 5}, {0, 1, 0}, {0, -1, 0},
		{least + 1, least, most}, {least, most, most - 1}, {9, 0, -9}, {9, 9, -9}, {9, -9, -9}, {most, 0, least},
	} {
		for _, soft := range []int{0, 30} {
			gain := api.Gain{P: one, Low: x[0], High: x[2]}
			l = append(l, pair{api.Servo{Rate: 5, Soft: soft, Gain: gain}, api.Drive{Pid: api.Pid{Sum: x[1]}}})
			l = append(l, pair{api.Servo{Rate: -5, Soft: soft, Gain: gain}, api.Drive{Pid: api.Pid{Sum: x[1]}}})
			l = append(l, pair{api.Servo{Rate: 5, Soft: 31 + soft, Gain: gain}, api.Drive{Pid: api.Pid{Sum: x[1]}}})
		}
	}
	// Nothing else that is kept makes it better.
	for _, x := range slices.Clone(l) {
		for _, n := range []int32{1, -1, most, least} {
			x.s.Goal, x.s.Valve, x.s.Pid.Last = n, n, n
			l = append(l, x)
		}
	}
	return l
}

// P41: from the one end of the way over its middle to the other one, and beyond
// where a coil is below 0.
func TestSense(t *testing.T) {
	s := api.Sensor{Sum: 8, Wide: 1, Full: 4 * one}
	for _, x := range [][3]int32{
		{8, 0, 4 * one}, {7, 1, 3 * one}, {6, 2, 2 * one}, {5, 3, one}, {4, 4, 0}, {3, 5, -one}, {2, 6, -2 * one}, {1, 7, -3 * one}, {0, 8, -4 * one},
		{9, -1, 5 * one}, {-1, 9, -5 * one}, {12, -4, 8 * one}, {-4, 12, -8 * one},
		// By what both are together, not by what they are as good as always.
		{7, 2, 4 * 36408}, {7, 0, 4 * one}, {0, 7, -4 * one}, {9, 0, 4 * one}, {0, 9, -4 * one}, {5, 2, 4 * 28086}, {2, 5, -4 * 28086},
	} {
		mustSense(t, x[0], x[1], s, x[2], true)
	}
}

// P41: just Wide from Sum, and one farther, on each side.
func TestSenseWide(t *testing.T) {
	for _, wide := range []int32{0, 1, 2, 50, 99} {
		s := api.Sensor{Sum: 100, Wide: wide, Full: one}
		mustSense(t, 100+wide, 0, s, one, true)
		mustSense(t, 0, 100-wide, s, -one, true)
		mustBlind(t, 101+wide, 0, s)
		mustBlind(t, 0, 99-wide, s)
		mustBlind(t, 0, most, s)
		mustBlind(t, -7, -100, s)
	}
	mustSense(t, 100, 0, api.Sensor{Sum: 100, Full: one}, one, true)
	mustSense(t, 101, -1, api.Sensor{Sum: 100}, 0, true)
}

// P41: both together below 1 are never valid, however wide.
func TestSenseBelowOne(t *testing.T) {
	for _, wide := range []int32{1, 2, 3, 4, 9, one, most} {
		s := api.Sensor{Sum: 2, Wide: wide, Full: one}
		mustSense(t, 1, 0, s, one, true)
		mustSense(t, 0, 1, s, -one, true)
		mustSense(t, 3, -2, s, 5*one, true)
		mustBlind(t, 0, 0, s)
		mustBlind(t, 5, -5, s)
		mustBlind(t, -1, 0, s)
		mustBlind(t, 0, -1, s)
		mustBlind(t, 4, -5, s)
		mustBlind(t, least, most, s)
		mustBlind(t, least, least, s)
	}
}

// P41: the quotient toward 0, then the product to the nearest, halves up.
func TestSenseRounds(t *testing.T) {
	third := func(full int32) api.Sensor { return api.Sensor{Sum: 3, Full: full} }
	for _, x := range []struct {
		a, b, full, want int32
	}{
		{2, 1, one, 21845}, {1, 2, one, -21845}, {2, 1, one / 2, 10923}, {1, 2, one / 2, -10922},
		{2, 1, 3 * one, 65535}, {1, 2, 3 * one, -65535}, {2, 1, 1, 0}, {2, 1, 2, 1}, {1, 2, 2, -1}, {2, 1, 3, 1}, {1, 2, 3, -1}, {2, 1, 4, 1}, {2, 1, 5, 2}, {1, 2, 5, -2},
		{3, 0, 1, 1}, {0, 3, 1, -1}, {3, 0, 0, 0}, {0, 3, 0, 0}, {2, 1, 0, 0}, {3, 0, most, most}, {0, 3, most, -most},
	} {
		mustSense(t, x.a, x.b, third(x.full), x.want, true)
	}
	mustSense(t, 3, 1, api.Sensor{Sum: 4, Full: 1}, 1, true)
	mustSense(t, 1, 3, api.Sensor{Sum: 4, Full: 1}, 0, true)
}

// P41: both together, and how far that is from Sum, are not saturated; the
// difference, the divisor, the quotient and the product are.
func TestSenseSaturates(t *testing.T) {
	for _, x := range []struct {
		a, b int32
		s    api.Sensor
		want int32
		ok   bool
	}{
		// Both together.
		{most, 1, api.Sensor{Sum: most, Full: one}, 0, false}, {most, 0, api.Sensor{Sum: most, Full: one}, one, true}, {most, 1, api.Sensor{Sum: most, Wide: 1, Full: one}, 65535, true},
		{most, most, api.Sensor{Sum: most, Wide: most, Full: one}, 0, true}, {most, most, api.Sensor{Sum: most, Wide: most - 1, Full: one}, 0, false},
		{least, least, api.Sensor{Sum: most, Wide: most, Full: one}, 0, false},
		// How far it is from Sum.
		{most, 1, api.Sensor{Sum: 1, Wide: most, Full: one}, 65535, true}, {most, 2, api.Sensor{Sum: 1, Wide: most, Full: one}, 0, false},
		{most, most, api.Sensor{Sum: 1, Wide: most, Full: one}, 0, false}, {most, most, api.Sensor{Sum: most - 1, Wide: most, Full: one}, 0, false},
		// The difference.
		{most, 2*one - most, api.Sensor{Sum: 2 * one, Full: one}, most / 2, true}, {2*one - most, most, api.Sensor{Sum: 2 * one, Full: one}, -1 << 30, true},
		// The divisor: half of the way is more than half of the greatest number.
		{most, most / 3, api.Sensor{Sum: most, Wide: most, Full: one}, 43690, true}, {most / 3, most, api.Sensor{Sum: most, Wide: most, Full: one}, -43690, true},
		// The quotient.
		{most, 1 - most, api.Sensor{Sum: 1, Full: one / 2}, 1 << 30, true}, {1 - most, most, api.Sensor{Sum: 1, Full: one / 2}, -1 << 30, true},
		// The product.
		{9, -1, api.Sensor{Sum: 8, Full: most}, most, true}, {-1, 9, api.Sensor{Sum: 8, Full: most}, least, true},
		{most, 1 - most, api.Sensor{Sum: 1, Full: most}, most, true}, {1 - most, most, api.Sensor{Sum: 1, Full: most}, least, true},
	} {
		mustSense(t, x.a, x.b, x.s, x.want, x.ok)
	}
}

// P41: all small ones, each edge beside each, and any, beside a second way.
func TestSenseEverywhere(t *testing.T) {
	for sum := int32(1); sum < 6; sum++ {
		for wide := int32(0); wide < 7; wide++ {
			for _, full := range []int32{0, 1, 3, one / 2, one, most} {
				s := api.Sensor{Sum: sum, Wide: wide, Full: full}
				for a := int32(-8); a <= 12; a++ {
					for b := int32(-8); b <= 12; b++ {
						want, ok := workedSense(a, b, s)
						mustSense(t, a, b, s, want, ok)
					}
				}
			}
		}
	}
	for _, sum := range []int32{1, 2, one, most/2 + 1, most - 1, most} {
		for _, wide := range []int32{0, 1, one, most - 1, most} {
			for _, a := range edges {
				for _, b := range append([]int32{less(sum, a), less(plus(sum, wide), a), less(less(sum, wide), a)}, edges...) {
					s := api.Sensor{Sum: sum, Wide: wide, Full: one + 1}
					want, ok := workedSense(a, b, s)
					mustSense(t, a, b, s, want, ok)
				}
			}
		}
	}
	r := rand.New(rand.NewSource(41))
	for range 60000 {
		a, b, s := someSensor(r)
		want, ok := workedSense(a, b, s)
		mustSense(t, a, b, s, want, ok)
	}
}

// P41: while no coil is below 0 the place is on the way, and the other way round
// if the coils are exchanged, but for a half that is rounded up.
func TestSenseStaysOnTheWay(t *testing.T) {
	r := rand.New(rand.NewSource(141))
	for range 20000 {
		a, b, s := someSensor(r)
		a, b = a&most, b&most
		there, ok, _ := Sense(a, b, s)
		back, alsoOk, _ := Sense(b, a, s)
		if there < -s.Full || there > s.Full {
			t.Fatalf("Sense(%d, %d, %+v) = %d", a, b, s, there)
		}
		turned := int64(there) + int64(back)
		if ok != alsoOk || turned != 0 && turned != 1 {
			t.Fatalf("Sense of %d, %d, %+v = %d, %t, and the coils exchanged %d, %t", a, b, s, there, ok, back, alsoOk)
		}
	}
}

// P41: ErrArg whatever the coils are, and nothing beside it.
func TestSenseWrong(t *testing.T) {
	for _, s := range wrongSensors() {
		for _, x := range [][2]int32{{0, 0}, {6, 2}, {1, 0}, {1, 1}, {-1, 0}, {4, -4}, {s.Sum, 0}, {0, s.Sum}, {most, most}, {least, least}, {most, least}} {
			if got, ok, e := Sense(x[0], x[1], s); got != 0 || ok || e != api.ErrArg {
				t.Errorf("Sense(%d, %d, %+v) = %d, %t, %d, want 0, false, ErrArg", x[0], x[1], s, got, ok, e)
			}
		}
	}
	// Just right.
	mustBlind(t, 0, 0, api.Sensor{Sum: 1})
	mustSense(t, 1, 0, api.Sensor{Sum: 1}, 0, true)
}

// P42: each Soft, Rates from 0 on, a Sum at each bound and between; whatever
// else is kept.
func TestCheck(t *testing.T) {
	for _, x := range [][3]int32{{-9, 0, 9}, {-9, -9, 9}, {-9, 9, 9}, {0, 0, 0}, {5, 5, 5}, {5, 6, 7}, {-7, -6, -5}, {least, least, most}, {least, most, most}, {most, most, most}} {
		for _, rate := range []int32{0, 1, one, most - 1, most} {
			for soft := range 31 {
				for _, n := range few {
					c := api.Servo{Rate: rate, Soft: soft, Gain: api.Gain{P: n, I: n, D: n, Low: x[0], High: x[2]}}
					s := api.Drive{Goal: n, Pid: api.Pid{Sum: x[1], Last: n}, Valve: n}
					if e := Check(c, s); e != api.OK {
						t.Fatalf("Check(%+v, %+v) = %d, want OK", c, s, e)
					}
				}
			}
		}
	}
	if e := Check(api.Servo{}, api.Drive{}); e != api.OK {
		t.Errorf("Check of nothing = %d, want OK", e)
	}
}

// P42.
func TestCheckWrong(t *testing.T) {
	for _, x := range wrong() {
		if e := Check(x.c, x.s); e != api.ErrArg {
			t.Errorf("Check(%+v, %+v) = %d, want ErrArg", x.c, x.s, e)
		}
	}
}

// P42: each edge beside each.
func TestCheckEverywhere(t *testing.T) {
	for _, rate := range edges {
		for _, soft := range []int{math.MinInt, -1, 0, 1, 29, 30, 31, math.MaxInt} {
			for _, low := range few {
				for _, high := range few {
					for _, sum := range few {
						want := api.ErrArg
						if rate >= 0 && soft >= 0 && soft <= 30 && low <= sum && sum <= high {
							want = api.OK
						}
						c := api.Servo{Rate: rate, Soft: soft, Gain: api.Gain{Low: low, High: high}}
						s := api.Drive{Goal: low, Pid: api.Pid{Sum: sum, Last: high}, Valve: rate}
						if e := Check(c, s); e != want {
							t.Fatalf("Check(%+v, %+v) = %d, want %d", c, s, e, want)
						}
					}
				}
			}
		}
	}
}

// P43: a way there and back, frame by frame.
func TestStep(t *testing.T) {
	c := api.Servo{Rate: 2, Soft: 1, Gain: api.Gain{P: 2 * one, Low: -9, High: 9}}
	full := api.Servo{Rate: 3, Soft: 2, Gain: api.Gain{P: one, I: one / 2, D: one, Low: -20, High: 20}}
	for _, x := range []struct {
		c         api.Servo
		s         api.Drive
		want, pos int32
		kept      api.Drive
	}{
		{c, api.Drive{}, 5, 0, api.Drive{Goal: 2, Pid: api.Pid{Last: 2}, Valve: 2}},
		{c, api.Drive{Goal: 2, Pid: api.Pid{Last: 2}, Valve: 2}, 5, 0, api.Drive{Goal: 4, Pid: api.Pid{Last: 4}, Valve: 5}},
		{c, api.Drive{Goal: 4, Pid: api.Pid{Last: 4}, Valve: 5}, 5, 0, api.Drive{Goal: 5, Pid: api.Pid{Last: 5}, Valve: 7}},
		{c, api.Drive{Goal: 5, Pid: api.Pid{Last: 5}, Valve: 7}, 5, 5, api.Drive{Goal: 5, Valve: 4}},
		{c, api.Drive{Goal: 5, Valve: 4}, 5, 9, api.Drive{Goal: 5, Pid: api.Pid{Last: -4}, Valve: -2}},
		{c, api.Drive{Goal: 5, Valve: 4}, -5, 5, api.Drive{Goal: 3, Pid: api.Pid{Last: -2}, Valve: 0}},
		{c, api.Drive{}, -5, 0, api.Drive{Goal: -2, Pid: api.Pid{Last: -2}, Valve: -2}},
		{c, api.Drive{}, 0, 0, api.Drive{}},
		// What is wanted is no farther than Rate, at once, and beside it.
		{c, api.Drive{Goal: 5}, 7, 7, api.Drive{Goal: 7}}, {c, api.Drive{Goal: 5}, 6, 6, api.Drive{Goal: 6}}, {c, api.Drive{Goal: 5}, 8, 7, api.Drive{Goal: 7}},
		{c, api.Drive{Goal: 5}, 3, 3, api.Drive{Goal: 3}}, {c, api.Drive{Goal: 5}, 4, 4, api.Drive{Goal: 4}}, {c, api.Drive{Goal: 5}, 2, 3, api.Drive{Goal: 3}},
		// Each gain has its part, the Sum and Last are those that were kept.
		{full, api.Drive{}, 4, -1, api.Drive{Goal: 3, Pid: api.Pid{Sum: 2, Last: 4}, Valve: 2}},
		{full, api.Drive{Goal: 3, Pid: api.Pid{Sum: 2, Last: 4}, Valve: 2}, 4, 0, api.Drive{Goal: 4, Pid: api.Pid{Sum: 4, Last: 4}, Valve: 3}},
		{full, api.Drive{Goal: 4, Pid: api.Pid{Sum: 4, Last: 4}, Valve: 3}, 4, 4, api.Drive{Goal: 4, Pid: api.Pid{Sum: 4}, Valve: 2}},
		{full, api.Drive{Goal: 4, Pid: api.Pid{Sum: 4}, Valve: 2}, 4, 2, api.Drive{Goal: 4, Pid: api.Pid{Sum: 5, Last: 2}, Valve: 3}},
		// At its bound the Sum stays; Last and the Valve go on.
		{full, api.Drive{Goal: 90, Pid: api.Pid{Sum: 5}}, 90, 0, api.Drive{Goal: 90, Pid: api.Pid{Sum: 5, Last: 90}, Valve: 5}},
		{full, api.Drive{Goal: -90, Pid: api.Pid{Sum: -5}}, -90, 0, api.Drive{Goal: -90, Pid: api.Pid{Sum: -5, Last: -90}, Valve: -5}},
		// The output's bounds are not the Valve's.
		{c, api.Drive{Valve: 100}, 0, 0, api.Drive{Valve: 50}}, {c, api.Drive{Valve: -100}, 0, 0, api.Drive{Valve: -50}},
	} {
		mustStep(t, x.c, x.s, x.want, x.pos, x.kept)
	}
}

// P43: with a Rate of 0 the Goal stays, with the greatest one it is nearly
// everywhere at once.
func TestStepRate(t *testing.T) {
	for _, x := range []struct {
		rate, goal, want, now int32
	}{
		{0, 3, 900, 3}, {0, 3, -900, 3}, {0, 3, 3, 3}, {0, least, most, least}, {0, most, least, most},
		{1, 3, 900, 4}, {1, 3, -900, 2}, {1, 3, 3, 3}, {1, -1, 1, 0}, {1, 1, -1, 0},
		{5, most - 1, most, most}, {5, most - 9, most, most - 4}, {5, least + 1, least, least}, {5, least + 9, least, least + 4}, {5, most, least, most - 5}, {5, least, most, least + 5},
		{most, 5, most, most}, {most, 5, least, 5 - most}, {most, -5, least, least}, {most, -5, most, most - 5}, {most, 0, least, least + 1}, {most, least, most, -1}, {most, most, least, 0}, {most - 1, 0, most, most - 1},
	} {
		c := api.Servo{Rate: x.rate, Gain: api.Gain{Low: -9, High: 9}}
		mustStep(t, c, api.Drive{Goal: x.goal}, x.want, x.now, api.Drive{Goal: x.now})
	}
}

// P43: with no Soft bits the Valve is the output at once, with many it goes on by
// 1 at least until it is there.
func TestStepSoft(t *testing.T) {
	g := api.Gain{P: one, Low: least, High: most}
	for _, x := range []struct {
		soft            int
		valve, out, now int32
	}{
		{0, 0, 7, 7}, {0, 7, -7, -7}, {0, least, most, most}, {0, most, least, least}, {0, 7, 7, 7},
		{1, 0, 7, 3}, {1, 0, -7, -3}, {1, 3, 7, 5}, {1, 6, 7, 7}, {1, 7, 7, 7}, {1, 8, 7, 7}, {1, least, most, -1}, {1, most, least, 0},
		{3, 0, 7, 1}, {3, 0, 8, 1}, {3, 0, 15, 1}, {3, 0, 16, 2}, {3, 0, -7, -1}, {3, 0, -16, -2},
		{29, 0, most, 3}, {30, 0, most, 1}, {30, least, most, least + 3}, {30, most, least, most - 3}, {30, 0, least, -2}, {30, 0, 1, 1}, {30, 0, -1, -1}, {30, 5, 5, 5},
	} {
		c := api.Servo{Soft: x.soft, Gain: g}
		mustStep(t, c, api.Drive{Goal: x.out, Valve: x.valve}, 0, 0, api.Drive{Goal: x.out, Pid: api.Pid{Last: x.out}, Valve: x.now})
	}
}

// P43: the error is of the new Goal, and saturates.
func TestStepSaturates(t *testing.T) {
	c := api.Servo{Rate: most, Gain: api.Gain{P: one, Low: least, High: most}}
	half := api.Servo{Rate: most, Gain: api.Gain{P: one / 2, Low: least, High: most}}
	for _, x := range []struct {
		c                    api.Servo
		want, pos, err, told int32
	}{
		{c, most, least, most, most}, {c, -most, most, least, least}, {c, most, -1, most, most}, {c, -most, 1, least, least}, {c, -most, 2, least, least},
		{c, most, 0, most, most}, {c, most, 1, most - 1, most - 1}, {c, 0, least, most, most}, {c, -1, least, most, most}, {c, -2, least, most - 1, most - 1},
		{half, most, least, most, 1 << 30}, {half, -most, most, least, -1 << 30}, {half, most, most, 0, 0},
	} {
		mustStep(t, x.c, api.Drive{}, x.want, x.pos, api.Drive{Goal: x.want, Pid: api.Pid{Last: x.err}, Valve: x.told})
	}
}

// P43: all small ones, beside a second way.
func TestStepOfEverySmallOne(t *testing.T) {
	for _, rate := range []int32{0, 1, 3} {
		for soft := range 4 {
			for _, g := range []api.Gain{{}, {P: one}, {I: one}, {D: one}, {P: -one, I: one / 2, D: 2 * one}} {
				g.Low, g.High = -4, 3
				c := api.Servo{Rate: rate, Soft: soft, Gain: g}
				for goal := int32(-2); goal <= 2; goal++ {
					for want := int32(-5); want <= 5; want++ {
						for pos := int32(-3); pos <= 3; pos++ {
							for valve := int32(-6); valve <= 6; valve += 3 {
								mustWork(t, c, api.Drive{Goal: goal, Pid: api.Pid{Sum: valve / 2, Last: pos}, Valve: valve}, want, pos)
							}
						}
					}
				}
			}
		}
	}
}

// P43: at the edges of each.
func TestStepOfEveryEdge(t *testing.T) {
	for _, n := range edges {
		for _, goal := range few {
			for _, want := range few {
				for _, pos := range few {
					for _, soft := range []int{0, 1, 16, 30} {
						for _, g := range []api.Gain{{P: n, Low: least, High: most}, {P: one, I: n, D: n, Low: -one, High: one}} {
							c := api.Servo{Rate: n & most, Soft: soft, Gain: g}
							mustWork(t, c, api.Drive{Goal: goal, Pid: api.Pid{Sum: 1, Last: n}, Valve: n}, want, pos)
							c.Rate = most
							mustWork(t, c, api.Drive{Goal: goal, Pid: api.Pid{Sum: 1, Last: n}, Valve: want}, n, pos)
						}
					}
				}
			}
		}
	}
}

// P43: any; and what is kept passes Check again, the Goal goes no farther than
// Rate, and the Valve stays between where it was and the bounds of the output.
func TestStepEverywhere(t *testing.T) {
	r := rand.New(rand.NewSource(43))
	for range 60000 {
		c, s := someServo(r)
		want, pos := someNumber(r), someNumber(r)
		mustWork(t, c, s, want, pos)
		kept, valve, _ := Step(c, s, want, pos)
		if Check(c, kept) != api.OK {
			t.Fatalf("Step(%+v, %+v, %d, %d) keeps %+v", c, s, want, pos, kept)
		}
		far := new(big.Int).Sub(wide(kept.Goal), wide(s.Goal))
		if far.Abs(far).Cmp(wide(c.Rate)) > 0 {
			t.Fatalf("Step(%+v, %+v, %d, %d) goes to %d", c, s, want, pos, kept.Goal)
		}
		if valve < min(s.Valve, c.Gain.Low) || valve > max(s.Valve, c.Gain.High) {
			t.Fatalf("Step(%+v, %+v, %d, %d) tells %d", c, s, want, pos, valve)
		}
	}
}

// P43: of what stays as it is, the Goal comes to what is wanted, and the Valve to
// what is to be done about it, and both stay there.
func TestStepComesThere(t *testing.T) {
	for _, want := range []int32{0, 1, -1, 7, 500, -500} {
		for soft := range 31 {
			c := api.Servo{Rate: 10, Soft: soft, Gain: api.Gain{P: 2 * one, Low: -900, High: 900}}
			s := api.Drive{Valve: 30}
			for range 3000 {
				s, _, _ = Step(c, s, want, 100)
			}
			err := want - 100
			there := api.Drive{Goal: want, Pid: api.Pid{Last: err}, Valve: between(2*err, -900, 900)}
			if s != there {
				t.Errorf("with %d bits it comes to %+v, want %+v", soft, s, there)
			}
			mustStep(t, c, s, want, 100, there)
		}
	}
}

// P43: Check's error, and nothing beside it.
func TestStepWrong(t *testing.T) {
	for _, x := range wrong() {
		for _, n := range [][2]int32{{0, 0}, {5, 0}, {0, 5}, {most, least}, {least, most}} {
			if got, valve, e := Step(x.c, x.s, n[0], n[1]); got != (api.Drive{}) || valve != 0 || e != api.ErrArg {
				t.Errorf("Step(%+v, %+v, %d, %d) = %+v, %d, %d, want nothing, 0, ErrArg", x.c, x.s, n[0], n[1], got, valve, e)
			}
		}
	}
}

// P43: also of what Check would not let through.
func TestRest(t *testing.T) {
	for _, pos := range edges {
		for _, n := range edges {
			s := api.Drive{Goal: n, Pid: api.Pid{Sum: n, Last: n}, Valve: n}
			for _, was := range []api.Drive{{}, s, {Goal: n}, {Pid: s.Pid}, {Valve: n}} {
				if got := Rest(was, pos); got != (api.Drive{Goal: pos}) {
					t.Fatalf("Rest(%+v, %d) = %+v", was, pos, got)
				}
			}
		}
	}
}

// P43: a lane that has rested begins where the ram is.
func TestRestThenStep(t *testing.T) {
	c := api.Servo{Rate: 2, Gain: api.Gain{P: one, I: one, D: one, Low: -90, High: 90}}
	s := Rest(api.Drive{Goal: 900, Pid: api.Pid{Sum: 50, Last: -50}, Valve: 60}, 40)
	mustStep(t, c, s, 40, 40, api.Drive{Goal: 40})
	mustStep(t, c, s, 900, 40, api.Drive{Goal: 42, Pid: api.Pid{Sum: 2, Last: 2}, Valve: 6})
}

// P2: what is told again is the same, whatever was asked between.
func TestNothingIsKept(t *testing.T) {
	r := rand.New(rand.NewSource(2))
	for range 3000 {
		a, b, sensor := someSensor(r)
		c, s := someServo(r)
		want, pos := someNumber(r), someNumber(r)
		place, ok, e := Sense(a, b, sensor)
		kept, valve, e2 := Step(c, s, want, pos)
		otherA, otherB, otherSensor := someSensor(r)
		other, otherDrive := someServo(r)
		Sense(otherA, otherB, otherSensor)
		Step(other, otherDrive, someNumber(r), someNumber(r))
		Step(api.Servo{Rate: -1}, otherDrive, 1, 2)
		Rest(otherDrive, pos)
		if p, o, f := Sense(a, b, sensor); p != place || o != ok || f != e {
			t.Fatalf("Sense told %d, %t, %d and then %d, %t, %d", place, ok, e, p, o, f)
		}
		if d, v, f := Step(c, s, want, pos); d != kept || v != valve || f != e2 {
			t.Fatalf("Step told %+v, %d, %d and then %+v, %d, %d", kept, valve, e2, d, v, f)
		}
	}
}
