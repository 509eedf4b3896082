package stroke

import (
	"math"
	"math/rand"
	"slices"
	"testing"

	"steadyhand/api"
	"steadyhand/ram"
	"steadyhand/servo"
)

const (
	one   = 65536
	least = math.MinInt32
	most  = math.MaxInt32
)

type points = []api.Point

// edges are the numbers at and beside which a type ends, a point stands or a
// sign turns.
var edges = []int32{
	least, least + 1, least / 2, -one - 1, -one, -one + 1, -one / 2, -2, -1,
	0, 1, 2, one / 2, one - 1, one, one + 1, most/2 + 1, most - 1, most,
}

// notFrames are numbers that are no point's Frames, some of which have one in
// their lower bits.
var notFrames = []int{
	0, -1, 201, 202, -2, -200, -201, 255, 256, 257, 300, 456, -56, 1000, 65536, 65537, 65736, 1 << 31, 1<<31 + 1,
	1 << 32, 1<<32 + 1, 1<<32 + 200, 1 - 1<<32, -1 << 32, math.MaxInt, math.MinInt, math.MinInt + 1, math.MinInt + 200,
}

// notWides are numbers that are no point's Wide.
var notWides = []int32{-1, -2, -one, least / 2, least + 1, least}

// plain is a trial in which the ram comes to what is wanted within one frame.
func plain() api.Trial {
	return api.Trial{
		Body:  api.Body{Gain: one, Low: -90, High: 90},
		Servo: api.Servo{Rate: 200, Gain: api.Gain{P: one, Low: -200, High: 200}},
		Oil:   one,
	}
}

// alike are so many points of this one.
func alike(many int, p api.Point) points {
	l := make(points, many)
	for k := range l {
		l[k] = p
	}
	return l
}

// frameByFrame tells where the ram is behind each frame, going word by word
// through the promise: no point is judged here.
func frameByFrame(t *testing.T, x api.Trial, wants []int32) []api.Ram {
	t.Helper()
	var rams []api.Ram
	place, kept := x.Ram, api.Drive{Goal: x.Ram.Pos}
	for _, want := range wants {
		next, valve, e1 := servo.Step(x.Servo, kept, want, place.Pos)
		valves := [4]int32{valve, 0, 0, 0}
		if x.Stuck {
			valves[0] = 0
		}
		push, e2 := ram.Push(valves, [4]int{1, 0, 0, 0}, [4]int32{x.Oil, 0, 0, 0})
		moved, e3 := ram.Step(x.Body, place, push, [4]int{1, 0, 0, 0}, x.Load)
		if e1 != api.OK || e2 != api.OK || e3 != api.OK {
			t.Fatalf("%+v toward %d: %d, %d, %d", x, want, e1, e2, e3)
		}
		place, kept = moved, next
		rams = append(rams, place)
	}
	return rams
}

// near: is pos from want less wide to want and wide?
func near(pos, want, wide int32) bool {
	low, high := int64(want)-int64(wide), int64(want)+int64(wide)
	return low <= int64(pos) && int64(pos) <= high
}

// worked is told by all frames of all points, though the trial may end sooner.
func worked(t *testing.T, x api.Trial, l points) (int, api.Ram) {
	t.Helper()
	var wants []int32
	var ends []int
	for _, p := range l {
		wants = append(wants, slices.Repeat([]int32{p.Want}, p.Frames)...)
		ends = append(ends, len(wants)-1)
	}
	rams := frameByFrame(t, x, wants)
	for k, p := range l {
		if then := rams[ends[k]]; !near(then.Pos, p.Want, p.Wide) {
			return k, then
		}
	}
	return len(l), rams[len(rams)-1]
}

func mustCheck(t *testing.T, l points, want api.Errno) {
	t.Helper()
	if e := Check(l); e != want {
		t.Fatalf("Check(%+v) = %d, want %d", l, e, want)
	}
}

func mustTime(t *testing.T, l points, want int) {
	t.Helper()
	if n, e := Time(l); n != want || e != api.OK {
		t.Fatalf("Time(%+v) = %d, %d, want %d, OK", l, n, e, want)
	}
}

func mustTest(t *testing.T, x api.Trial, l points, want int, there api.Ram) {
	t.Helper()
	if n, r, e := Test(x, l); n != want || r != there || e != api.OK {
		t.Fatalf("Test(%+v, %+v) = %d, %+v, %d, want %d, %+v, OK", x, l, n, r, e, want, there)
	}
}

func mustWork(t *testing.T, x api.Trial, l points) {
	t.Helper()
	n, there := worked(t, x, l)
	mustTest(t, x, l, n, there)
}

// mustRefuse: the error of all three calls is that of the profile.
func mustRefuse(t *testing.T, l points, want api.Errno) {
	t.Helper()
	mustCheck(t, l, want)
	if n, e := Time(l); n != 0 || e != want {
		t.Fatalf("Time(%+v) = %d, %d, want 0, %d", l, n, e, want)
	}
	mustNotTest(t, plain(), l, want)
}

func mustNotTest(t *testing.T, x api.Trial, l points, want api.Errno) {
	t.Helper()
	if n, r, e := Test(x, l); n != 0 || r != (api.Ram{}) || e != want {
		t.Fatalf("Test(%+v, %+v) = %d, %+v, %d, want 0, nothing, %d", x, l, n, r, e, want)
	}
}

// someNumber is near to 0, an edge, or of any length.
func someNumber(r *rand.Rand) int32 {
	switch r.Intn(3) {
	case 0:
		return int32(r.Intn(41) - 20)
	case 1:
		return edges[r.Intn(len(edges))]
	default:
		return int32(r.Uint32()) >> r.Intn(32)
	}
}

// someProfile that Check lets through.
func someProfile(r *rand.Rand) points {
	l := make(points, 1+r.Intn(16))
	for k := range l {
		l[k] = api.Point{Want: someNumber(r), Frames: 1 + r.Intn(1+r.Intn(20)), Wide: someNumber(r) & most}
	}
	return l
}

// someTrial that is a right one, of any numbers.
func someTrial(r *rand.Rand) api.Trial {
	way := []int32{someNumber(r), someNumber(r), someNumber(r)}
	slices.Sort(way)
	g := api.Gain{P: someNumber(r), I: someNumber(r), D: someNumber(r)}
	g.Low, g.High = -(someNumber(r) & most), someNumber(r)&most
	return api.Trial{
		Body:  api.Body{Gain: someNumber(r) & most, Drag: r.Intn(9), Low: way[0], High: way[2]},
		Ram:   api.Ram{Pos: way[1], Vel: someNumber(r)},
		Servo: api.Servo{Rate: someNumber(r) & most, Soft: r.Intn(31), Gain: g},
		Oil:   someNumber(r),
		Load:  someNumber(r),
		Stuck: r.Intn(5) == 0,
	}
}

// tameTrial is one that may well come to what is wanted, and near to it.
func tameTrial(r *rand.Rand) api.Trial {
	return api.Trial{
		Body:  api.Body{Gain: one / int32(1+r.Intn(4)), Drag: r.Intn(3), Low: -80, High: 80},
		Ram:   api.Ram{Pos: int32(r.Intn(21) - 10)},
		Servo: api.Servo{Rate: int32(1 + r.Intn(20)), Soft: r.Intn(3), Gain: api.Gain{P: one, I: int32(r.Intn(one / 4)), D: int32(r.Intn(one / 4)), Low: -30, High: 30}},
		Oil:   one - int32(r.Intn(one/2)),
		Load:  int32(r.Intn(5) - 2),
	}
}

// tameProfile stays where a tameTrial can go.
func tameProfile(r *rand.Rand) points {
	l := make(points, 1+r.Intn(16))
	for k := range l {
		l[k] = api.Point{Want: int32(r.Intn(101) - 50), Frames: 1 + r.Intn(12), Wide: int32(r.Intn(30))}
	}
	return l
}

// P61: each number of points that there may be, and what may stand in one.
func TestCheck(t *testing.T) {
	for many := 1; many <= 16; many++ {
		for _, frames := range []int{1, 2, 100, 199, 200} {
			for _, wide := range []int32{0, 1, one, most - 1, most} {
				for _, want := range edges {
					mustCheck(t, alike(many, api.Point{Want: want, Frames: frames, Wide: wide}), api.OK)
				}
			}
		}
	}
}

// P61: none, and more than 16, whatever stands in them.
func TestHowManyPoints(t *testing.T) {
	mustRefuse(t, nil, api.ErrLarge)
	mustRefuse(t, points{}, api.ErrLarge)
	mustRefuse(t, make(points, 0, 5), api.ErrLarge)
	for _, many := range []int{17, 18, 31, 32, 33, 64, 255, 256, 257, 272, 65536, 65537, 65552} {
		for _, p := range []api.Point{{Frames: 1}, {Frames: 200, Wide: most}, {}, {Frames: 201}, {Frames: 1, Wide: -1}} {
			mustRefuse(t, alike(many, p), api.ErrLarge)
		}
	}
}

// P61: wrong Frames or a wrong Wide, at each place of a profile of each length.
func TestWrongPoints(t *testing.T) {
	var bad points
	for _, n := range notFrames {
		bad = append(bad, api.Point{Want: 1, Frames: n}, api.Point{Want: 1, Frames: n, Wide: most}, api.Point{Frames: n, Wide: -1})
	}
	for _, n := range notWides {
		bad = append(bad, api.Point{Want: 1, Frames: 1, Wide: n}, api.Point{Want: -1, Frames: 200, Wide: n})
	}
	for many := 1; many <= 16; many++ {
		for k := range many {
			for _, p := range bad {
				l := alike(many, api.Point{Want: 1, Frames: 2, Wide: 3})
				l[k] = p
				mustRefuse(t, l, api.ErrArg)
			}
		}
	}
	for _, p := range bad {
		mustRefuse(t, alike(16, p), api.ErrArg)
	}
}

// P61: all Frames together.
func TestTime(t *testing.T) {
	mustTime(t, points{{Frames: 3}, {Frames: 4}}, 7)
	mustTime(t, points{{Frames: 4, Want: 9, Wide: 5}, {Frames: 3, Want: -9}}, 7)
	for many := 1; many <= 16; many++ {
		for _, frames := range []int{1, 2, 16, 199, 200} {
			mustTime(t, alike(many, api.Point{Want: most, Frames: frames, Wide: most}), many*frames)
		}
	}
	// Each place counts by itself.
	l := alike(16, api.Point{Frames: 1})
	want := 16
	for k := range l {
		l[k].Frames = 10 * (k + 1)
		want += 10*(k+1) - 1
		mustTime(t, l, want)
	}
}

// P62, P63: what was wanted is reached, point by point, or it isn't.
func TestTest(t *testing.T) {
	x := plain()
	mustTest(t, x, points{{Want: 5, Frames: 1}}, 1, api.Ram{Pos: 5, Vel: 5})
	mustTest(t, x, points{{Want: 5, Frames: 2}}, 1, api.Ram{Pos: 5})
	mustTest(t, x, points{{Want: 5, Frames: 200}}, 1, api.Ram{Pos: 5})
	mustTest(t, x, points{{Want: 5, Frames: 1}, {Want: -4, Frames: 1}}, 2, api.Ram{Pos: -4, Vel: -9})
	mustTest(t, x, points{{Want: 5, Frames: 3}, {Want: -4, Frames: 1}, {Want: 90, Frames: 1}}, 3, api.Ram{Pos: 90, Vel: 94})
	mustTest(t, x, points{{Want: 0, Frames: 1}}, 1, api.Ram{})
	mustTest(t, x, points{{Want: 5, Frames: 3}, {Want: 91, Frames: 3}, {Want: 5, Frames: 3}}, 1, api.Ram{Pos: 90})
	mustTest(t, x, points{{Want: 91, Frames: 1}, {Want: 5, Frames: 3}}, 0, api.Ram{Pos: 90, Vel: 90})
}

// P62: the Drive begins where the ram is, not at 0, and of how far it came before
// nothing is asked.
func TestBeginsWhereTheRamIs(t *testing.T) {
	x := plain()
	x.Servo.Rate = 2
	for _, pos := range []int32{-90, -10, 0, 1, 10, 80} {
		for _, vel := range []int32{0, 7, least, most} {
			x.Ram = api.Ram{Pos: pos, Vel: vel}
			mustTest(t, x, points{{Want: pos + 3, Frames: 1, Wide: 1}}, 1, api.Ram{Pos: pos + 2, Vel: 2})
			mustTest(t, x, points{{Want: pos + 3, Frames: 1}}, 0, api.Ram{Pos: pos + 2, Vel: 2})
			mustTest(t, x, points{{Want: pos, Frames: 1}}, 1, api.Ram{Pos: pos})
		}
	}
}

// P62: the Goal goes on where it was, from frame to frame and from point to point.
func TestRate(t *testing.T) {
	x := plain()
	x.Servo.Rate = 2
	for _, c := range []struct {
		l     points
		n     int
		there api.Ram
	}{
		{points{{Want: 5, Frames: 1, Wide: 3}}, 1, api.Ram{Pos: 2, Vel: 2}},
		{points{{Want: 5, Frames: 1, Wide: 2}}, 0, api.Ram{Pos: 2, Vel: 2}},
		{points{{Want: 5, Frames: 2, Wide: 1}}, 1, api.Ram{Pos: 4, Vel: 2}},
		{points{{Want: 5, Frames: 2}}, 0, api.Ram{Pos: 4, Vel: 2}},
		{points{{Want: 5, Frames: 3}}, 1, api.Ram{Pos: 5, Vel: 1}},
		{points{{Want: 5, Frames: 1, Wide: 3}, {Want: 5, Frames: 1, Wide: 1}, {Want: 5, Frames: 1}}, 3, api.Ram{Pos: 5, Vel: 1}},
		{points{{Want: 5, Frames: 1, Wide: 3}, {Want: 5, Frames: 1}, {Want: 5, Frames: 1}}, 1, api.Ram{Pos: 4, Vel: 2}},
		{points{{Want: 5, Frames: 2, Wide: 1}, {Want: -5, Frames: 2, Wide: 5}}, 2, api.Ram{Vel: -2}},
		{points{{Want: 5, Frames: 2, Wide: 1}, {Want: -5, Frames: 4, Wide: 1}}, 2, api.Ram{Pos: -4, Vel: -2}},
	} {
		mustTest(t, x, c.l, c.n, c.there)
	}
	// What the Goal has gone ahead of a slower ram stays too.
	x.Body.Gain = one / 4
	x.Servo.Rate = 8
	mustTest(t, x, points{{Want: 16, Frames: 1, Wide: 90}}, 1, api.Ram{Pos: 2, Vel: 2})
	mustTest(t, x, points{{Want: 16, Frames: 1, Wide: 90}, {Want: 16, Frames: 1, Wide: 90}}, 2, api.Ram{Pos: 6, Vel: 4})
}

// P62: so do the Valve, the Sum, and the Last error.
func TestDriveGoesOn(t *testing.T) {
	soft := plain()
	soft.Servo.Soft = 1
	for k, there := range []api.Ram{{Pos: 4, Vel: 4}, {Pos: 8, Vel: 4}, {Pos: 10, Vel: 2}, {Pos: 10}, {Pos: 9, Vel: -1}, {Pos: 8, Vel: -1}, {Pos: 8}} {
		mustTest(t, soft, points{{Want: 8, Frames: k + 1, Wide: 4}}, 1, there)
		mustTest(t, soft, alike(k+1, api.Point{Want: 8, Frames: 1, Wide: 4}), k+1, there)
	}
	sum := plain()
	sum.Servo.Gain = api.Gain{I: one / 2, Low: -90, High: 90}
	for k, there := range []api.Ram{{Pos: 4, Vel: 4}, {Pos: 10, Vel: 6}, {Pos: 15, Vel: 5}, {Pos: 17, Vel: 2}, {Pos: 15, Vel: -2}} {
		mustTest(t, sum, points{{Want: 8, Frames: k + 1, Wide: 9}}, 1, there)
		mustTest(t, sum, alike(k+1, api.Point{Want: 8, Frames: 1, Wide: 9}), k+1, there)
	}
	last := plain()
	last.Servo.Gain = api.Gain{D: one / 2, Low: -90, High: 90}
	for k, there := range []api.Ram{{Pos: 4, Vel: 4}, {Pos: 2, Vel: -2}, {Pos: 3, Vel: 1}, {Pos: 3}} {
		mustTest(t, last, points{{Want: 8, Frames: k + 1, Wide: 8}}, 1, there)
		mustTest(t, last, alike(k+1, api.Point{Want: 8, Frames: 1, Wide: 8}), k+1, there)
	}
}

// P62: what is Stuck pushes nothing, whatever is wanted; the Load still moves it.
func TestStuck(t *testing.T) {
	x := plain()
	x.Stuck = true
	mustTest(t, x, points{{Want: 5, Frames: 3}, {Want: -4, Frames: 3}}, 0, api.Ram{})
	mustTest(t, x, points{{Want: 5, Frames: 3, Wide: 5}, {Want: -4, Frames: 3}}, 1, api.Ram{})
	mustTest(t, x, points{{Want: 0, Frames: 200}}, 1, api.Ram{})
	x.Ram.Pos = 7
	mustTest(t, x, points{{Want: 5, Frames: 9, Wide: 2}, {Want: 7, Frames: 9}, {Want: 8, Frames: 9}}, 2, api.Ram{Pos: 7})
	x.Load = -3
	mustTest(t, x, points{{Want: 10, Frames: 1}, {Want: 19, Frames: 3}, {Want: -90, Frames: 200}}, 2, api.Ram{Pos: 90})
	mustTest(t, x, points{{Want: -90, Frames: 1, Wide: 100}}, 1, api.Ram{Pos: 10, Vel: 3})
	x.Load = 3
	mustTest(t, x, points{{Want: 4, Frames: 1}, {Want: -5, Frames: 3}, {Want: 90, Frames: 200}}, 2, api.Ram{Pos: -90})
}

// P62: the push is the valve times Oil, none of an Oil below 0.
func TestOil(t *testing.T) {
	x := plain()
	for _, oil := range []int32{0, -1, -one, least} {
		x.Oil = oil
		mustTest(t, x, points{{Want: 5, Frames: 200, Wide: 4}}, 0, api.Ram{})
		mustTest(t, x, points{{Want: 5, Frames: 200, Wide: 5}}, 1, api.Ram{})
	}
	x.Oil = one / 2
	for k, there := range []api.Ram{{Pos: 4, Vel: 4}, {Pos: 6, Vel: 2}, {Pos: 7, Vel: 1}, {Pos: 8, Vel: 1}, {Pos: 8}} {
		mustTest(t, x, points{{Want: 8, Frames: k + 1, Wide: 4}}, 1, there)
	}
	x.Oil = 2 * one
	for k, there := range []api.Ram{{Pos: 10, Vel: 10}, {Vel: -10}, {Pos: 10, Vel: 10}} {
		mustTest(t, x, points{{Want: 5, Frames: k + 1, Wide: 5}}, 1, there)
		mustTest(t, x, points{{Want: 5, Frames: k + 1, Wide: 4}}, 0, there)
	}
}

// P62: the Load goes against it, in each frame.
func TestLoad(t *testing.T) {
	x := plain()
	x.Load = 1
	mustTest(t, x, points{{Want: 5, Frames: 1, Wide: 1}}, 1, api.Ram{Pos: 4, Vel: 4})
	mustTest(t, x, points{{Want: 5, Frames: 2, Wide: 1}}, 1, api.Ram{Pos: 4})
	mustTest(t, x, points{{Want: 5, Frames: 200}}, 0, api.Ram{Pos: 4})
	mustTest(t, x, points{{Want: 0, Frames: 1}}, 0, api.Ram{Pos: -1, Vel: -1})
	x.Load = -2
	mustTest(t, x, points{{Want: 5, Frames: 1, Wide: 2}, {Want: -5, Frames: 1, Wide: 1}}, 1, api.Ram{Pos: -3, Vel: -10})
}

// P62: the trial's own Body, with its Drag, but none of a Damped lane; and its ends.
func TestBody(t *testing.T) {
	x := plain()
	x.Body.Drag = 1
	for k, there := range []api.Ram{{Pos: 4, Vel: 4}, {Pos: 6, Vel: 2}, {Pos: 7, Vel: 1}, {Pos: 7}} {
		mustTest(t, x, points{{Want: 8, Frames: k + 1, Wide: 4}}, 1, there)
	}
	for k, there := range []api.Ram{{Pos: -4, Vel: -4}, {Pos: -6, Vel: -2}, {Pos: -7, Vel: -1}, {Pos: -8, Vel: -1}, {Pos: -8}} {
		mustTest(t, x, points{{Want: -8, Frames: k + 1, Wide: 4}}, 1, there)
	}
	x = plain()
	x.Body.Low, x.Body.High = -3, 4
	mustTest(t, x, points{{Want: 90, Frames: 1, Wide: 86}, {Want: -90, Frames: 1, Wide: 87}}, 2, api.Ram{Pos: -3, Vel: -7})
	mustTest(t, x, points{{Want: 90, Frames: 1, Wide: 86}, {Want: -90, Frames: 1, Wide: 86}}, 1, api.Ram{Pos: -3, Vel: -7})
	mustTest(t, x, points{{Want: 90, Frames: 9, Wide: 85}, {Want: -90, Frames: 1, Wide: 87}}, 0, api.Ram{Pos: 4})
	x.Body.Gain = 0
	mustTest(t, x, points{{Want: 1, Frames: 200, Wide: 1}, {Want: -1, Frames: 200, Wide: 1}, {Want: 2, Frames: 1, Wide: 1}}, 2, api.Ram{})
}

// P63: just Wide from what is wanted, and one farther, on each side.
func TestWide(t *testing.T) {
	x := plain()
	x.Stuck = true
	for _, pos := range []int32{-90, -1, 0, 1, 33, 90} {
		x.Ram.Pos = pos
		there := api.Ram{Pos: pos}
		for _, wide := range []int32{0, 1, 2, 7, one, 1 << 30} {
			for _, side := range []int32{-1, 1} {
				mustTest(t, x, points{{Want: pos + side*wide, Frames: 1, Wide: wide}}, 1, there)
				mustTest(t, x, points{{Want: pos + side*(wide+1), Frames: 1, Wide: wide}}, 0, there)
			}
		}
	}
}

// P63: how far it is does not saturate.
func TestWideDoesNotSaturate(t *testing.T) {
	x := api.Trial{Body: api.Body{Low: least, High: most}, Stuck: true}
	for _, c := range []struct {
		pos, want int32
		near      bool
	}{
		{0, most, true}, {-1, most, false}, {-2, most, false}, {-9, most, false}, {least, most, false}, {least, most - 1, false}, {least, 0, false}, {least, -1, true}, {least, 1, false},
		{0, least, false}, {-1, least, true}, {1, least, false}, {most, least, false}, {most, least + 1, false}, {most, 0, true}, {most, -1, false}, {most, 1, true},
		{1, least + 1, false}, {0, least + 1, true}, {1 << 30, -1 << 30, false}, {1 << 30, 1 - 1<<30, true}, {most, most, true}, {least, least, true},
	} {
		x.Ram.Pos = c.pos
		want := 0
		if c.near {
			want = 1
		}
		mustTest(t, x, points{{Want: c.want, Frames: 1, Wide: most}}, want, api.Ram{Pos: c.pos})
	}
}

// P63: only behind a point's frames, not between them, is it asked where the ram is.
func TestOnlyTheEndCounts(t *testing.T) {
	x := plain()
	x.Oil = 2 * one
	// It is at 10, 0, 10, 0 and so on.
	mustTest(t, x, points{{Want: 5, Frames: 1, Wide: 90}, {Want: 5, Frames: 2, Wide: 5}}, 2, api.Ram{Pos: 10, Vel: 10})
	// It is 8 past what is wanted, 16 short of it, 8 past it and so on, at the ends of its way.
	x.Oil, x.Body.Low, x.Body.High = 3*one, -8, 16
	for frames := 1; frames <= 20; frames++ {
		if frames%2 == 1 {
			mustTest(t, x, points{{Want: 8, Frames: frames, Wide: 8}}, 1, ramOf(frames, 16, 24))
			mustTest(t, x, points{{Want: 8, Frames: frames, Wide: 7}}, 0, ramOf(frames, 16, 24))
		} else {
			mustTest(t, x, points{{Want: 8, Frames: frames, Wide: 16}}, 1, api.Ram{Pos: -8, Vel: -24})
			mustTest(t, x, points{{Want: 8, Frames: frames, Wide: 15}}, 0, api.Ram{Pos: -8, Vel: -24})
		}
	}
}

// ramOf is one that has come to pos: from 0 in the first frame, from the other end
// of its way in any other one.
func ramOf(frames int, pos, way int32) api.Ram {
	if frames == 1 {
		return api.Ram{Pos: pos, Vel: pos}
	}
	return api.Ram{Pos: pos, Vel: way}
}

// P63: the first point that isn't reached is told, with the ram behind that one,
// and not behind those that would follow.
func TestFirstThatIsNotReached(t *testing.T) {
	for many := 1; many <= 16; many++ {
		for first := range many {
			l := make(points, many)
			for k := range l {
				l[k] = api.Point{Want: int32(2*k + 1), Frames: 2}
			}
			l[first].Want = 100
			for second := first; second < many; second++ {
				tried := slices.Clone(l)
				tried[second].Want = -100
				there := api.Ram{Pos: 90}
				if second == first {
					there.Pos = -90
				}
				mustTest(t, plain(), tried, first, there)
			}
			l[first].Wide = 10
			mustTest(t, plain(), l, many, endOf(first, many))
		}
	}
}

// endOf is where the ram is behind the last of many points.
func endOf(first, many int) api.Ram {
	if first == many-1 {
		return api.Ram{Pos: 90}
	}
	return api.Ram{Pos: int32(2*many - 1)}
}

// P62, P63: any, tame ones and wild ones, beside a second way.
func TestEverywhere(t *testing.T) {
	r := rand.New(rand.NewSource(62))
	told := map[int]int{}
	for range 12000 {
		x, l := tameTrial(r), tameProfile(r)
		mustWork(t, x, l)
		n, _, _ := Test(x, l)
		told[min(n, len(l)-1)]++
		mustWork(t, someTrial(r), someProfile(r))
		mustWork(t, tameTrial(r), someProfile(r))
		mustWork(t, someTrial(r), tameProfile(r))
	}
	for k := range 6 {
		if told[k] < 10 {
			t.Errorf("only %d trials end at point %d", told[k], k)
		}
	}
}

// P62: as many points and frames as there may be.
func TestLongest(t *testing.T) {
	r := rand.New(rand.NewSource(63))
	for range 60 {
		x := tameTrial(r)
		l := make(points, 16)
		for k := range l {
			l[k] = api.Point{Want: int32(r.Intn(101) - 50), Frames: 200, Wide: 60}
		}
		mustWork(t, x, l)
		mustTime(t, l, 3200)
	}
	x := plain()
	x.Stuck, x.Body.High, x.Load = true, most, -1
	mustTest(t, x, alike(16, api.Point{Frames: 200, Wide: 3200}), 16, api.Ram{Pos: 3200, Vel: 1})
	mustTest(t, x, alike(16, api.Point{Frames: 200, Wide: 3199}), 15, api.Ram{Pos: 3200, Vel: 1})
}

// P62: a point of many frames is as many points of one frame.
func TestFramesAreAlike(t *testing.T) {
	r := rand.New(rand.NewSource(61))
	for range 3000 {
		x := someTrial(r)
		p := api.Point{Want: someNumber(r), Frames: 1 + r.Intn(16), Wide: someNumber(r) & most}
		single := alike(p.Frames, api.Point{Want: p.Want, Frames: 1, Wide: most})
		n, there, _ := Test(x, points{p})
		last, end, _ := Test(x, single)
		if last == p.Frames && there != end {
			t.Fatalf("Test(%+v, %+v) = %d, %+v, but frame by frame %+v", x, p, n, there, end)
		}
	}
}

// wrongRams have a wrong Body, or a Ram that is not on its way.
func wrongRams() []api.Trial {
	var l []api.Trial
	for _, gain := range []int32{-1, -2, -one, least + 1, least} {
		x := plain()
		x.Body.Gain = gain
		l = append(l, x)
	}
	for _, drag := range []int{-1, 9, 10, -8, 64, 256, 1 << 32, 1<<32 + 4, math.MaxInt, math.MinInt, math.MinInt + 4} {
		x := plain()
		x.Body.Drag = drag
		l = append(l, x)
	}
	for _, way := range [][3]int32{{-90, 91, 90}, {-90, -91, 90}, {1, 0, 90}, {-90, 0, -1}, {90, 0, -90}, {-90, most, 90}, {-90, least, 90}, {5, 4, 5}, {5, 6, 5}, {least + 1, least, most}, {least, most, most - 1}, {most, 0, least}} {
		x := plain()
		x.Body.Low, x.Ram.Pos, x.Body.High = way[0], way[1], way[2]
		l = append(l, x)
	}
	return l
}

// wrongServos have a wrong Rate or Soft, or bounds of which 0 is outside.
func wrongServos() []api.Trial {
	var l []api.Trial
	for _, rate := range []int32{-1, -2, -one, least + 1, least} {
		x := plain()
		x.Servo.Rate = rate
		l = append(l, x)
	}
	for _, soft := range []int{-1, 31, 32, -30, 64, 256, 1 << 32, 1<<32 + 4, math.MaxInt, math.MinInt, math.MinInt + 4} {
		x := plain()
		x.Servo.Soft = soft
		l = append(l, x)
	}
	for _, bounds := range [][2]int32{{1, 90}, {-90, -1}, {1, -1}, {90, -90}, {most, least}, {1, most}, {least, -1}, {1, 1}, {-1, -1}} {
		x := plain()
		x.Servo.Gain.Low, x.Servo.Gain.High = bounds[0], bounds[1]
		l = append(l, x)
	}
	return l
}

// P62: the errors of the profile, of the ram and of the servo, in that order, and
// nothing beside them, even if no frame would ever need what is wrong.
func TestWrongTrials(t *testing.T) {
	right := points{{Want: 5, Frames: 3}, {Want: -4, Frames: 3}}
	for _, x := range slices.Concat(wrongRams(), wrongServos()) {
		for _, stuck := range []bool{false, true} {
			for _, oil := range []int32{one, 0, -one} {
				x.Stuck, x.Oil = stuck, oil
				mustNotTest(t, x, right, api.ErrArg)
				mustNotTest(t, x, points{{Want: x.Ram.Pos, Frames: 1, Wide: most}}, api.ErrArg)
				mustNotTest(t, x, points{{Want: 100, Frames: 1}, {Frames: 1}}, api.ErrArg)
				mustNotTest(t, x, nil, api.ErrLarge)
				mustNotTest(t, x, alike(17, right[0]), api.ErrLarge)
				mustNotTest(t, x, alike(16, api.Point{}), api.ErrArg)
			}
		}
	}
	for _, a := range wrongRams() {
		for _, b := range wrongServos() {
			a.Servo = b.Servo
			mustNotTest(t, a, right, api.ErrArg)
		}
	}
}

// P62: just right ones are tried: each end of what the ram and the servo may be.
func TestJustRightTrials(t *testing.T) {
	l := points{{Want: 5, Frames: 3, Wide: most}, {Want: -4, Frames: 3, Wide: most}}
	for _, gain := range []int32{0, 1, most} {
		for _, drag := range []int{0, 8} {
			for _, way := range [][3]int32{{-90, 90, 90}, {-90, -90, 90}, {0, 0, 0}, {5, 5, 5}, {least, least, most}, {least, most, most}} {
				for _, rate := range []int32{0, most} {
					for _, soft := range []int{0, 30} {
						for _, bounds := range [][2]int32{{0, 0}, {0, 90}, {-90, 0}, {least, most}} {
							x := plain()
							x.Body = api.Body{Gain: gain, Drag: drag, Low: way[0], High: way[2]}
							x.Ram.Pos = way[1]
							x.Servo.Rate, x.Servo.Soft = rate, soft
							x.Servo.Gain.Low, x.Servo.Gain.High = bounds[0], bounds[1]
							mustWork(t, x, l)
						}
					}
				}
			}
		}
	}
}

// P1: whatever is given, each call answers, and all three find the same fault in a
// profile.
func TestWhateverIsGiven(t *testing.T) {
	r := rand.New(rand.NewSource(1))
	for range 20000 {
		x := api.Trial{
			Body:  api.Body{Gain: someNumber(r), Drag: int(someNumber(r)), Low: someNumber(r), High: someNumber(r)},
			Ram:   api.Ram{Pos: someNumber(r), Vel: someNumber(r)},
			Servo: api.Servo{Rate: someNumber(r), Soft: int(someNumber(r)), Gain: api.Gain{P: someNumber(r), Low: someNumber(r), High: someNumber(r)}},
			Oil:   someNumber(r), Load: someNumber(r), Stuck: r.Intn(2) == 0,
		}
		l := make(points, r.Intn(19))
		for k := range l {
			l[k] = api.Point{Want: someNumber(r), Frames: int(someNumber(r)), Wide: someNumber(r)}
		}
		e := Check(l)
		n, e2 := Time(l)
		m, there, e3 := Test(x, l)
		if e2 != e || e != api.OK && e3 != e || e2 != api.OK && n != 0 || e3 != api.OK && (m != 0 || there != api.Ram{}) {
			t.Fatalf("of %+v, %+v: %d; %d, %d; %d, %+v, %d", x, l, e, n, e2, m, there, e3)
		}
	}
}

// P2: what is handed in stays as it is, also behind its end, and what is told again
// is the same, whatever was asked between.
func TestNothingIsChangedOrKept(t *testing.T) {
	r := rand.New(rand.NewSource(2))
	for range 3000 {
		x, l := tameTrial(r), tameProfile(r)
		room := append(slices.Clone(l), api.Point{Want: 7, Frames: 7, Wide: 7}, api.Point{Want: -7})
		was := slices.Clone(room)
		l = room[:len(l)]
		e := Check(l)
		many, e2 := Time(l)
		n, there, e3 := Test(x, l)
		Test(someTrial(r), someProfile(r))
		Test(api.Trial{Body: api.Body{Drag: 9}}, l)
		Time(append(someProfile(r), api.Point{}))
		if !slices.Equal(room, was) {
			t.Fatalf("%+v was changed to %+v", was, room)
		}
		m, again, e6 := Test(x, l)
		if also, e5 := Time(l); Check(l) != e || also != many || e5 != e2 || m != n || again != there || e6 != e3 {
			t.Fatalf("of %+v, %+v it told %d, %d, %+v and then %d, %d, %+v", x, l, many, n, there, also, m, again)
		}
	}
}
