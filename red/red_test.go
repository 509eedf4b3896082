package red

import (
	"math"
	"math/rand"
	"slices"
	"testing"

	"steadyhand/api"
	"steadyhand/lane"
)

type four = [4]bool

// The five states that a lane may be in, but for how long.
var (
	standby      = api.LaneState{Mode: 0}
	active       = api.LaneState{Mode: 1}
	bypassed     = api.LaneState{Mode: 2, Failed: true}
	damped       = api.LaneState{Mode: 3}
	failedDamped = api.LaneState{Mode: 3, Failed: true}
	states       = []api.LaneState{standby, active, bypassed, damped, failedDamped}
)

var (
	none = four{}
	each = four{true, true, true, true}
)

var someFors = []int{0, 1, 2, 777, 9998, 9999, 10000}

var notFors = []int{-1, -2, -10000, 10001, 10002, 65536, 1 << 32, 1<<32 + 1, 1 - 1<<32, math.MaxInt, math.MinInt}

// notModes are beyond the four, some of which are within them in their lower bits.
var notModes = []int{-1, -2, -4, 4, 5, 7, 8, 256, 257, 65536, 1 << 32, 1<<32 + 1, 1<<32 + 3, 1 - 1<<32, math.MaxInt, math.MinInt}

// notLanes are beyond the four, some of which are within them in their lower bits.
var notLanes = []int{-1, -2, -3, -4, 4, 5, 6, 7, 8, 256, 257, 65536, 1 << 32, 1<<32 + 1, 1<<32 + 3, 1 - 1<<32, math.MaxInt, math.MaxInt - 1, math.MinInt, math.MinInt + 1}

// broken is a state, and lane.Check's error of it.
type broken struct {
	s api.LaneState
	e api.Errno
}

// long is s, for that many frames.
func long(s api.LaneState, frames int) api.LaneState {
	s.For = frames
	return s
}

// lasting is t, each lane for that many frames.
func lasting(t api.Team, frames [4]int) api.Team {
	for k := range t {
		t[k].For = frames[k]
	}
	return t
}

// wrong are states of which lane.Check tells an error, some of them for two things.
func wrong() []broken {
	l := []broken{{api.LaneState{Mode: 0, Failed: true}, api.ErrForm}, {api.LaneState{Mode: 1, Failed: true, For: 10000}, api.ErrForm}, {api.LaneState{Mode: 2}, api.ErrForm}}
	for _, failed := range []bool{false, true} {
		for _, mode := range notModes {
			l = append(l, broken{api.LaneState{Mode: mode, Failed: failed, For: 5}, api.ErrArg})
		}
		for _, frames := range notFors {
			for mode := range 4 {
				l = append(l, broken{api.LaneState{Mode: mode, Failed: failed, For: frames}, api.ErrArg})
			}
		}
	}
	return l
}

// everyTeam is each way of the four lanes' states.
func everyTeam() []api.Team {
	var l []api.Team
	for _, a := range states {
		for _, b := range states {
			for _, c := range states {
				for _, d := range states {
					l = append(l, api.Team{a, b, c, d})
				}
			}
		}
	}
	return l
}

// everyFour is each way of four to be so or not.
func everyFour() []four {
	var l []four
	for bits := range 16 {
		l = append(l, four{bits&1 != 0, bits&2 != 0, bits&4 != 0, bits&8 != 0})
	}
	return l
}

func someFour(r *rand.Rand) four {
	return everyFour()[r.Intn(16)]
}

func someTeam(r *rand.Rand) api.Team {
	var t api.Team
	for k := range t {
		t[k] = long(states[r.Intn(5)], r.Intn(10001))
		if r.Intn(4) == 0 {
			t[k].For = someFors[r.Intn(len(someFors))]
		}
	}
	return t
}

// planned is what the promise comes to, with no event in it: a lane that may work
// does so if there is room, all others wait or are out; or none may, and all are
// Damped.
func planned(t api.Team, oil, faults four) (api.Team, api.Report) {
	var next api.Team
	var r api.Report
	for k := range next {
		next[k].Failed = t[k].Failed || faults[k]
		switch {
		case next[k].Failed:
			next[k].Mode = 2
		case oil[k]:
			r.Usable++
			if r.Usable <= 2 {
				next[k].Mode = 1
				r.Active++
			}
		}
	}
	if r.Usable == 0 {
		r.Lost = true
		for k := range next {
			next[k].Mode = 3
		}
	}
	for k := range next {
		switch {
		case next[k].Mode != t[k].Mode:
		case t[k].For == 10000:
			next[k].For = 10000
		default:
			next[k].For = t[k].For + 1
		}
	}
	return next, r
}

func mustCheck(t *testing.T, x api.Team, want api.Errno) {
	t.Helper()
	if e := Check(x); e != want {
		t.Fatalf("Check(%v) = %d, want %d", x, e, want)
	}
}

func mustUse(t *testing.T, x api.Team, oil four, want []int) {
	t.Helper()
	if l := Usable(x, oil); !slices.Equal(l, want) {
		t.Fatalf("Usable(%v, %v) = %v, want %v", x, oil, l, want)
	}
}

func mustPlan(t *testing.T, x api.Team, oil, faults four, want api.Team, wantReport api.Report) {
	t.Helper()
	if got, r, e := Plan(x, oil, faults); got != want || r != wantReport || e != api.OK {
		t.Fatalf("Plan(%v, %v, %v) = %v, %v, %d, want %v, %v, OK", x, oil, faults, got, r, e, want, wantReport)
	}
}

func mustReset(t *testing.T, x api.Team, k int, want api.Team) {
	t.Helper()
	if got, e := Reset(x, k, true); got != want || e != api.OK {
		t.Fatalf("Reset(%v, %d, true) = %v, %d, want %v, OK", x, k, got, e, want)
	}
}

// mustNotReset tells nothing beside the error.
func mustNotReset(t *testing.T, x api.Team, k int, ground bool, want api.Errno) {
	t.Helper()
	if got, e := Reset(x, k, ground); got != (api.Team{}) || e != want {
		t.Fatalf("Reset(%v, %d, %v) = %v, %d, want nothing, %d", x, k, ground, got, e, want)
	}
}

func mustRest(t *testing.T, x, want api.Team) {
	t.Helper()
	if got, e := Rest(x); got != want || e != api.OK {
		t.Fatalf("Rest(%v) = %v, %d, want %v, OK", x, got, e, want)
	}
}

// mustBeWrong with each call that tells an error, and nothing is told beside it.
func mustBeWrong(t *testing.T, x api.Team, want api.Errno) {
	t.Helper()
	mustCheck(t, x, want)
	for _, so := range []four{none, each, {true}, {false, true, true}} {
		for _, faults := range []four{none, each, {false, false, true}} {
			if got, r, e := Plan(x, so, faults); got != (api.Team{}) || r != (api.Report{}) || e != want {
				t.Fatalf("Plan(%v, %v, %v) = %v, %v, %d, want nothing, %d", x, so, faults, got, r, e, want)
			}
		}
	}
	for _, k := range []int{-1, 0, 1, 2, 3, 4, math.MinInt, math.MaxInt} {
		mustNotReset(t, x, k, true, want)
		mustNotReset(t, x, k, false, want)
	}
	if got, e := Rest(x); got != (api.Team{}) || e != want {
		t.Fatalf("Rest(%v) = %v, %d, want nothing, %d", x, got, e, want)
	}
}

// The document's numbers.
func TestNumbers(t *testing.T) {
	if api.Lanes != 4 || api.MaxActive != 2 || api.MaxFor != 10000 {
		t.Error(api.Lanes, api.MaxActive, api.MaxFor)
	}
}

// P54: each four right states, however long.
func TestCheck(t *testing.T) {
	mustCheck(t, api.Team{}, api.OK)
	for _, x := range everyTeam() {
		for _, frames := range someFors {
			mustCheck(t, lasting(x, [4]int{frames, frames, frames, frames}), api.OK)
			mustCheck(t, lasting(x, [4]int{0, frames, 10000, 3}), api.OK)
		}
	}
}

// P54: a wrong state at any lane; P55, P56 and P57 tell Check's error, whatever else
// is wrong.
func TestCheckWrong(t *testing.T) {
	r := rand.New(rand.NewSource(54))
	for _, b := range wrong() {
		for k := range 4 {
			for range 3 {
				x := someTeam(r)
				x[k] = b.s
				mustBeWrong(t, x, b.e)
			}
		}
	}
}

// P54: of several wrong states the first one's error.
func TestCheckFirst(t *testing.T) {
	arg, form := long(active, 10001), api.LaneState{Mode: api.LBypassed}
	mustBeWrong(t, api.Team{arg, form, form, form}, api.ErrArg)
	mustBeWrong(t, api.Team{form, arg, arg, arg}, api.ErrForm)
	mustBeWrong(t, api.Team{standby, active, arg, form}, api.ErrArg)
	mustBeWrong(t, api.Team{standby, active, form, arg}, api.ErrForm)
	r := rand.New(rand.NewSource(154))
	l := wrong()
	for range 3000 {
		x := someTeam(r)
		first, behind := r.Intn(4), l[r.Intn(len(l))]
		for k := first; k < 4; k++ {
			x[k] = behind.s
		}
		b := l[r.Intn(len(l))]
		x[first] = b.s
		mustBeWrong(t, x, b.e)
	}
}

// P54: not Failed, and with oil, rising.
func TestUsable(t *testing.T) {
	x := api.Team{standby, bypassed, active, damped}
	mustUse(t, x, each, []int{0, 2, 3})
	mustUse(t, x, four{false, true, true, true}, []int{2, 3})
	mustUse(t, x, four{true, true}, []int{0})
	mustUse(t, x, four{false, true}, nil)
	mustUse(t, x, none, nil)
	mustUse(t, api.Team{}, each, []int{0, 1, 2, 3})
	mustUse(t, api.Team{failedDamped, bypassed, bypassed, failedDamped}, each, nil)
	mustUse(t, api.Team{failedDamped, bypassed, bypassed, damped}, each, []int{3})
}

// P54: each team with each oil; P1: also of states that are none.
func TestUsableEverywhere(t *testing.T) {
	r := rand.New(rand.NewSource(254))
	l := wrong()
	for _, x := range everyTeam() {
		for _, oil := range everyFour() {
			y := x
			for k := range y {
				y[k].Mode, y[k].For = l[r.Intn(len(l))].s.Mode, notFors[r.Intn(len(notFors))]
			}
			var want []int
			for k := range 4 {
				if oil[k] && !x[k].Failed {
					want = append(want, k)
				}
			}
			mustUse(t, x, oil, want)
			mustUse(t, y, oil, want)
		}
	}
}

// P2: each list is new memory, spare memory included.
func TestUsableIsNew(t *testing.T) {
	for _, oil := range everyFour() {
		first, second := Usable(api.Team{}, oil), Usable(api.Team{}, oil)
		want := slices.Clone(second)
		first = append(first, -1)
		first = first[:cap(first)]
		for k := range first {
			first[k] = -1
		}
		second = append(second, -2)
		if !slices.Equal(second[:len(want)], want) || slices.Contains(first, -2) {
			t.Fatalf("%v and %v share memory", first, second)
		}
		mustUse(t, api.Team{}, oil, want)
	}
}

// P55: the first two Usable ones work, the further ones wait.
func TestPlanArms(t *testing.T) {
	one := standby
	one.For = 1
	mustPlan(t, api.Team{}, each, none, api.Team{active, active, one, one}, api.Report{Usable: 4, Active: 2})
	mustPlan(t, api.Team{}, four{false, true, true, true}, none, api.Team{one, active, active, one}, api.Report{Usable: 3, Active: 2})
	mustPlan(t, api.Team{}, four{false, false, false, true}, none, api.Team{one, one, one, active}, api.Report{Usable: 1, Active: 1})
	mustPlan(t, api.Team{}, four{true, false, true}, none, api.Team{active, one, active, one}, api.Report{Usable: 2, Active: 2})
	mustPlan(t, api.Team{active, active, active, active}, each, none, api.Team{long(active, 1), long(active, 1), standby, standby}, api.Report{Usable: 4, Active: 2})
	// What comes back goes ahead of what stands behind it.
	x := api.Team{standby, long(active, 6), bypassed, long(active, 7)}
	mustPlan(t, x, each, none, api.Team{active, long(active, 7), long(bypassed, 1), standby}, api.Report{Usable: 3, Active: 2})
}

// P55: a fault puts a lane out, want of oil lets it wait, and it is not blamed for
// that.
func TestPlanStrikes(t *testing.T) {
	x := api.Team{long(active, 4), long(active, 5), long(standby, 6), long(standby, 7)}
	mustPlan(t, x, each, none, api.Team{long(active, 5), long(active, 6), long(standby, 7), long(standby, 8)}, api.Report{Usable: 4, Active: 2})
	mustPlan(t, x, each, four{true}, api.Team{bypassed, long(active, 6), active, long(standby, 8)}, api.Report{Usable: 3, Active: 2})
	mustPlan(t, x, each, four{true, true, true}, api.Team{bypassed, bypassed, bypassed, active}, api.Report{Usable: 1, Active: 1})
	mustPlan(t, x, four{false, false, true, true}, none, api.Team{standby, standby, active, active}, api.Report{Usable: 2, Active: 2})
	mustPlan(t, x, four{false, true, true, true}, four{false, false, true}, api.Team{standby, long(active, 6), bypassed, active}, api.Report{Usable: 2, Active: 2})
	// With no oil and a fault it has Failed.
	mustPlan(t, x, four{false, true, true, true}, four{true}, api.Team{bypassed, long(active, 6), active, long(standby, 8)}, api.Report{Usable: 3, Active: 2})
	mustPlan(t, x, four{true, true, false, false}, four{false, false, true}, api.Team{long(active, 5), long(active, 6), bypassed, long(standby, 8)}, api.Report{Usable: 2, Active: 2})
}

// P55: nothing is Usable: all are Damped, however they came to that.
func TestPlanLost(t *testing.T) {
	lost := api.Report{Lost: true}
	x := api.Team{long(active, 4), long(standby, 5), long(bypassed, 6), long(damped, 7)}
	mustPlan(t, x, none, none, api.Team{damped, damped, failedDamped, long(damped, 8)}, lost)
	mustPlan(t, x, each, each, api.Team{failedDamped, failedDamped, failedDamped, long(failedDamped, 8)}, lost)
	mustPlan(t, x, four{true, true, true}, four{true, true}, api.Team{failedDamped, failedDamped, failedDamped, long(damped, 8)}, lost)
	mustPlan(t, api.Team{bypassed, bypassed, bypassed, bypassed}, each, none, api.Team{failedDamped, failedDamped, failedDamped, failedDamped}, lost)
	mustPlan(t, api.Team{}, none, none, api.Team{damped, damped, damped, damped}, lost)
	all := api.Team{long(damped, 9999), long(failedDamped, 10000), long(damped, 0), long(failedDamped, 9998)}
	mustPlan(t, all, none, none, api.Team{long(damped, 10000), long(failedDamped, 10000), long(damped, 1), long(failedDamped, 9999)}, lost)
}

// P55: when one is Usable again none stays Damped, and what failed stays out.
func TestPlanFrees(t *testing.T) {
	x := api.Team{long(failedDamped, 5), long(damped, 6), long(damped, 7), long(damped, 8)}
	mustPlan(t, x, each, none, api.Team{bypassed, active, active, standby}, api.Report{Usable: 3, Active: 2})
	mustPlan(t, x, four{false, false, false, true}, none, api.Team{bypassed, standby, standby, active}, api.Report{Usable: 1, Active: 1})
	mustPlan(t, x, each, four{true, true, true}, api.Team{bypassed, bypassed, bypassed, active}, api.Report{Usable: 1, Active: 1})
	mustPlan(t, x, four{true}, none, api.Team{long(failedDamped, 6), long(damped, 7), long(damped, 8), long(damped, 9)}, api.Report{Lost: true})
}

// P55: in the same mode it is one frame more, at most MaxFor, also where it has
// Failed within it; in another one it is 0.
func TestPlanFor(t *testing.T) {
	for frames := range 10001 {
		more := min(frames+1, 10000)
		x := lasting(api.Team{active, standby, bypassed, standby}, [4]int{frames, frames, frames, frames})
		mustPlan(t, x, four{true, false, true, false}, none, lasting(x, [4]int{more, more, more, more}), api.Report{Usable: 1, Active: 1})
		mustPlan(t, x, each, none, api.Team{long(active, more), active, long(bypassed, more), long(standby, more)}, api.Report{Usable: 3, Active: 2})
		x = lasting(api.Team{damped, failedDamped, damped, active}, [4]int{frames, frames, frames, frames})
		mustPlan(t, x, none, four{true}, api.Team{long(failedDamped, more), long(failedDamped, more), long(damped, more), damped}, api.Report{Lost: true})
	}
}

// P55: each four states with each oil and each faults, beside a second way; what
// comes is a right team again.
func TestPlanEverywhere(t *testing.T) {
	r := rand.New(rand.NewSource(55))
	for _, x := range everyTeam() {
		for _, oil := range everyFour() {
			for _, faults := range everyFour() {
				for k := range x {
					x[k].For = someFors[r.Intn(len(someFors))]
				}
				next, report := planned(x, oil, faults)
				mustPlan(t, x, oil, faults, next, report)
				mustCheck(t, next, api.OK)
				if l := Usable(next, oil); len(l) != report.Usable {
					t.Fatalf("Usable(%v, %v) = %v beside %v", next, oil, l, report)
				}
			}
		}
	}
}

// P55: some lane is Active, and no more than two are, and none Damped; or the
// surface is Lost, and all are Damped. What failed stays out, and who did nothing
// wrong is not blamed.
func TestPlanWhateverHappens(t *testing.T) {
	r := rand.New(rand.NewSource(155))
	for range 400 {
		x := someTeam(r)
		for range 60 {
			oil, faults := someFour(r), none
			if r.Intn(6) == 0 {
				faults = someFour(r)
			}
			next, report, e := Plan(x, oil, faults)
			if e != api.OK {
				t.Fatalf("Plan(%v, %v, %v): %d", x, oil, faults, e)
			}
			mustBeSafe(t, next, report)
			for k := range next {
				if next[k].Failed != (x[k].Failed || faults[k]) {
					t.Fatalf("Plan(%v, %v, %v) = %v: lane %d", x, oil, faults, next, k)
				}
			}
			x = next
			switch r.Intn(8) {
			case 0:
				x, _ = Reset(x, r.Intn(4), true)
			case 1:
				x, _ = Rest(x)
			}
		}
	}
}

func mustBeSafe(t *testing.T, x api.Team, r api.Report) {
	t.Helper()
	var modes [4]int
	for _, s := range x {
		modes[s.Mode]++
	}
	works := modes[api.LActive] >= 1 && modes[api.LActive] <= 2 && modes[api.LDamped] == 0
	if modes[api.LActive] != r.Active || works == r.Lost || r.Lost != (modes[api.LDamped] == 4) || r.Lost != (r.Usable == 0) {
		t.Fatalf("%v, %v", x, r)
	}
}

// P56: on ground what failed, or is Damped, comes back; other lanes stay as they are.
func TestReset(t *testing.T) {
	x := api.Team{long(active, 4), long(bypassed, 5), long(failedDamped, 6), long(damped, 7)}
	mustReset(t, x, 0, x)
	mustReset(t, x, 1, api.Team{x[0], standby, x[2], x[3]})
	mustReset(t, x, 2, api.Team{x[0], x[1], standby, x[3]})
	mustReset(t, x, 3, api.Team{x[0], x[1], x[2], standby})
	mustReset(t, api.Team{long(standby, 10000)}, 0, api.Team{long(standby, 10000)})
}

// P56: of that lane, and no other one, EReset.
func TestResetEverywhere(t *testing.T) {
	r := rand.New(rand.NewSource(56))
	for _, x := range everyTeam() {
		for k := range 4 {
			for j := range x {
				x[j].For = someFors[r.Intn(len(someFors))]
			}
			want := x
			if x[k].Mode == api.LBypassed || x[k].Mode == api.LDamped {
				want[k] = standby
			}
			mustReset(t, x, k, want)
			mustNotReset(t, x, k, false, api.ErrMode)
			if s, _ := lane.Next(x[k], api.EReset); s != want[k] {
				t.Fatal(x[k], s)
			}
		}
	}
}

// P56: ErrArg of a lane that there is not, on ground or not.
func TestResetWrongLane(t *testing.T) {
	r := rand.New(rand.NewSource(156))
	for _, k := range notLanes {
		for range 20 {
			x := someTeam(r)
			mustNotReset(t, x, k, true, api.ErrArg)
			mustNotReset(t, x, k, false, api.ErrArg)
		}
	}
	for k := -300; k <= 300; k++ {
		if k < 0 || k > 3 {
			mustNotReset(t, api.Team{bypassed, bypassed, bypassed, bypassed}, k, true, api.ErrArg)
		}
	}
}

// P57: Active ones wait, all others stay as they are.
func TestRest(t *testing.T) {
	x := api.Team{long(active, 4), long(standby, 5), long(active, 0), long(active, 10000)}
	mustRest(t, x, api.Team{standby, long(standby, 5), standby, standby})
	x = api.Team{long(bypassed, 4), long(damped, 5), long(failedDamped, 6), long(standby, 10000)}
	mustRest(t, x, x)
}

// P57: of all lanes EDisarm.
func TestRestEverywhere(t *testing.T) {
	r := rand.New(rand.NewSource(57))
	for _, x := range everyTeam() {
		for range 5 {
			for k := range x {
				x[k].For = someFors[r.Intn(len(someFors))]
			}
			want := x
			for k := range want {
				if want[k].Mode == api.LActive {
					want[k] = standby
				}
				if s, _ := lane.Next(x[k], api.EDisarm); s != want[k] {
					t.Fatal(x[k], s)
				}
			}
			mustRest(t, x, want)
		}
	}
}

// P2: what is told again is the same, whatever was asked between.
func TestNothingIsKept(t *testing.T) {
	r := rand.New(rand.NewSource(2))
	for range 2000 {
		x, oil, faults, k := someTeam(r), someFour(r), someFour(r), r.Intn(4)
		usable := Usable(x, oil)
		next, report, _ := Plan(x, oil, faults)
		reset, _ := Reset(x, k, true)
		rest, _ := Rest(x)
		for range 3 {
			other := someTeam(r)
			Check(other)
			Usable(other, someFour(r))
			Plan(other, someFour(r), someFour(r))
			Reset(other, r.Intn(6)-1, r.Intn(2) == 0)
			Rest(other)
			other[r.Intn(4)].For = -1
			mustBeWrong(t, other, api.ErrArg)
		}
		mustCheck(t, x, api.OK)
		mustUse(t, x, oil, usable)
		mustPlan(t, x, oil, faults, next, report)
		mustReset(t, x, k, reset)
		mustRest(t, x, rest)
	}
}
