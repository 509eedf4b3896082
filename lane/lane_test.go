package lane

import (
	"math"
	"math/rand"
	"slices"
	"testing"

	"steadyhand/api"
)

// The five states that a lane may be in, but for how long.
var (
	standby      = api.LaneState{Mode: 0}
	active       = api.LaneState{Mode: 1}
	bypassed     = api.LaneState{Mode: 2, Failed: true}
	damped       = api.LaneState{Mode: 3}
	failedDamped = api.LaneState{Mode: 3, Failed: true}
	states       = []api.LaneState{standby, active, bypassed, damped, failedDamped}
)

// The three that it may not.
var unformed = []api.LaneState{{Mode: 0, Failed: true}, {Mode: 1, Failed: true}, {Mode: 2}}

var everyEvent = []int{1, 2, 3, 4, 5, 6, 7}

var someFors = []int{0, 1, 2, 5, 777, 9998, 9999, 10000}

var notFors = []int{-1, -2, -10000, 10001, 10002, 65536, 1 << 32, 1<<32 + 1, 1 - 1<<32, math.MaxInt, math.MinInt, math.MinInt + 1}

// notModes are beyond the four, some of which are within them in their lower bits.
var notModes = []int{-1, -2, -4, 4, 5, 7, 8, 256, 257, 65536, 1 << 32, 1<<32 + 1, 1<<32 + 3, 1 - 1<<32, math.MaxInt, math.MinInt, math.MinInt + 1}

var notEvents = []int{0, -1, -2, -7, 8, 9, 10, 15, 256, 257, 263, 65537, 1<<32 + 1, 1<<32 + 7, 1 - 1<<32, math.MaxInt, math.MinInt, math.MinInt + 1}

// long is s, for that many frames.
func long(s api.LaneState, frames int) api.LaneState {
	s.For = frames
	return s
}

// everyState is each right one, as long as each of someFors.
func everyState() []api.LaneState {
	var l []api.LaneState
	for _, s := range states {
		for _, frames := range someFors {
			l = append(l, long(s, frames))
		}
	}
	return l
}

// broken is a state, and Check's error of it.
type broken struct {
	s api.LaneState
	e api.Errno
}

// wrong are states of which Check tells an error, some of them for two things.
func wrong() []broken {
	var l []broken
	for _, failed := range []bool{false, true} {
		for _, mode := range notModes {
			for _, frames := range append(notFors, someFors...) {
				l = append(l, broken{api.LaneState{Mode: mode, Failed: failed, For: frames}, api.ErrArg})
			}
		}
		for mode := range 4 {
			for _, frames := range notFors {
				l = append(l, broken{api.LaneState{Mode: mode, Failed: failed, For: frames}, api.ErrArg})
			}
		}
	}
	for _, s := range unformed {
		for _, frames := range someFors {
			l = append(l, broken{long(s, frames), api.ErrForm})
		}
	}
	return l
}

// workedNext goes sentence by sentence through the promise, of a right state and an
// event that there is.
func workedNext(s api.LaneState, event int) api.LaneState {
	mode := s.Mode
	if event == api.EArm && s.Mode == api.LStandby {
		mode = api.LActive
	}
	if (event == api.EDisarm || event == api.EDry) && s.Mode == api.LActive {
		mode = api.LStandby
	}
	if event == api.EFault && (s.Mode == api.LStandby || s.Mode == api.LActive) {
		mode = api.LBypassed
	}
	if event == api.EDamp {
		mode = api.LDamped
	}
	if event == api.EFree && s.Mode == api.LDamped {
		mode = api.LStandby
		if s.Failed {
			mode = api.LBypassed
		}
	}
	if event == api.EReset && (s.Mode == api.LBypassed || s.Mode == api.LDamped) {
		mode = api.LStandby
	}
	failed := event == api.EFault || event != api.EReset && s.Failed
	if mode != s.Mode {
		return api.LaneState{Mode: mode, Failed: failed}
	}
	return api.LaneState{Mode: mode, Failed: failed, For: s.For}
}

// workedAll ends at the first event that there is not.
func workedAll(s api.LaneState, events []int) (api.LaneState, int, api.Errno) {
	many := 0
	for _, event := range events {
		if !slices.Contains(everyEvent, event) {
			return s, many, api.ErrArg
		}
		s = workedNext(s, event)
		many++
	}
	return s, many, api.OK
}

func mustCheck(t *testing.T, s api.LaneState, want api.Errno) {
	t.Helper()
	if e := Check(s); e != want {
		t.Fatalf("Check(%+v) = %d, want %d", s, e, want)
	}
}

func mustNext(t *testing.T, s api.LaneState, event int, want api.LaneState) {
	t.Helper()
	if got, e := Next(s, event); got != want || e != api.OK {
		t.Fatalf("Next(%+v, %d) = %+v, %d, want %+v, OK", s, event, got, e, want)
	}
}

// mustNotNext tells nothing beside the error.
func mustNotNext(t *testing.T, s api.LaneState, event int, want api.Errno) {
	t.Helper()
	if got, e := Next(s, event); got != (api.LaneState{}) || e != want {
		t.Fatalf("Next(%+v, %d) = %+v, %d, want nothing, %d", s, event, got, e, want)
	}
}

func mustTick(t *testing.T, s, want api.LaneState) {
	t.Helper()
	if got, e := Tick(s); got != want || e != api.OK {
		t.Fatalf("Tick(%+v) = %+v, %d, want %+v, OK", s, got, e, want)
	}
}

func mustAll(t *testing.T, s api.LaneState, events []int, want api.LaneState, many int, wantErr api.Errno) {
	t.Helper()
	if got, n, e := All(s, events); got != want || n != many || e != wantErr {
		t.Fatalf("All(%+v, %v) = %+v, %d, %d, want %+v, %d, %d", s, events, got, n, e, want, many, wantErr)
	}
}

func mustWork(t *testing.T, s api.LaneState, events []int) {
	t.Helper()
	want, many, e := workedAll(s, events)
	mustAll(t, s, events, want, many, e)
}

func someState(r *rand.Rand) api.LaneState {
	return long(states[r.Intn(len(states))], r.Intn(10001))
}

// someEvents, of which one in that many is none.
func someEvents(r *rand.Rand, many, oneIn int) []int {
	l := make([]int, many)
	for k := range l {
		l[k] = 1 + r.Intn(7)
		if oneIn > 0 && r.Intn(oneIn) == 0 {
			l[k] = notEvents[r.Intn(len(notEvents))]
		}
	}
	return l
}

// The document's numbers.
func TestNumbers(t *testing.T) {
	modes := []int{api.LStandby, api.LActive, api.LBypassed, api.LDamped}
	events := []int{api.EArm, api.EDisarm, api.EFault, api.EDry, api.EDamp, api.EFree, api.EReset}
	if !slices.Equal(modes, []int{0, 1, 2, 3}) || !slices.Equal(events, everyEvent) || api.MaxFor != 10000 {
		t.Error(modes, events, api.MaxFor)
	}
}

// P47: each mode, failed or not as it may be, from 0 to MaxFor frames.
func TestCheck(t *testing.T) {
	mustCheck(t, api.LaneState{}, api.OK)
	for _, s := range everyState() {
		mustCheck(t, s, api.OK)
	}
	for frames := range 10001 {
		mustCheck(t, long(active, frames), api.OK)
	}
}

// P47: ErrArg of a mode and of a For, also where it has no right form; ErrForm of
// what alone has none.
func TestCheckWrong(t *testing.T) {
	for _, x := range wrong() {
		mustCheck(t, x.s, x.e)
	}
	for _, s := range unformed {
		mustCheck(t, s, api.ErrForm)
		mustCheck(t, long(s, -1), api.ErrArg)
		mustCheck(t, long(s, 10001), api.ErrArg)
	}
}

// P48: what comes of each state and each event, column by column in the order EArm,
// EDisarm, EFault, EDry, EDamp, EFree, EReset.
func TestNext(t *testing.T) {
	for _, row := range []struct {
		from api.LaneState
		to   [7]api.LaneState
	}{
		{standby, [7]api.LaneState{active, standby, bypassed, standby, damped, standby, standby}},
		{active, [7]api.LaneState{active, standby, bypassed, standby, damped, active, active}},
		{bypassed, [7]api.LaneState{bypassed, bypassed, bypassed, bypassed, failedDamped, bypassed, standby}},
		{damped, [7]api.LaneState{damped, damped, failedDamped, damped, damped, standby, standby}},
		{failedDamped, [7]api.LaneState{failedDamped, failedDamped, failedDamped, failedDamped, failedDamped, bypassed, standby}},
	} {
		for k, to := range row.to {
			for _, frames := range someFors {
				want := to
				if to.Mode == row.from.Mode {
					want.For = frames
				}
				mustNext(t, long(row.from, frames), k+1, want)
			}
		}
	}
}

// P48: For ends where the mode does, and there alone.
func TestNextFor(t *testing.T) {
	mustNext(t, long(standby, 5), api.EArm, active)
	mustNext(t, long(active, 5), api.EArm, long(active, 5))
	mustNext(t, long(active, 10000), api.EFault, bypassed)
	mustNext(t, long(bypassed, 10000), api.EFault, long(bypassed, 10000))
	// It has Failed then, and is in the mode for as long.
	mustNext(t, long(damped, 5), api.EFault, long(failedDamped, 5))
	mustNext(t, long(damped, 10000), api.EFault, long(failedDamped, 10000))
	mustNext(t, long(failedDamped, 5), api.EDamp, long(failedDamped, 5))
	mustNext(t, long(failedDamped, 5), api.EFree, bypassed)
}

// P48: each right state, however long, beside a second way; what comes is right
// again.
func TestNextEverywhere(t *testing.T) {
	for _, s := range states {
		for frames := range 10001 {
			for _, event := range everyEvent {
				mustNext(t, long(s, frames), event, workedNext(long(s, frames), event))
			}
		}
	}
	for _, s := range everyState() {
		for _, event := range everyEvent {
			next, _ := Next(s, event)
			mustCheck(t, next, api.OK)
		}
	}
}

// P48: an event that there is not is ErrArg, and nothing is told beside it.
func TestNextWrongEvent(t *testing.T) {
	for _, s := range everyState() {
		for _, event := range notEvents {
			mustNotNext(t, s, event, api.ErrArg)
		}
	}
}

// P48: Check's error is told first, whatever happens.
func TestNextWrongState(t *testing.T) {
	for _, x := range wrong() {
		for _, event := range append(everyEvent, notEvents...) {
			mustNotNext(t, x.s, event, x.e)
		}
	}
}

// P48: what failed stays out until it is reset, and who did not fail is not blamed.
func TestNextStaysOut(t *testing.T) {
	r := rand.New(rand.NewSource(48))
	for range 3000 {
		s := someState(r)
		for range 60 {
			event := 1 + r.Intn(7)
			next, e := Next(s, event)
			if e != api.OK {
				t.Fatalf("Next(%+v, %d): %d", s, event, e)
			}
			if event != api.EReset && s.Failed && (!next.Failed || next.Mode < api.LBypassed) {
				t.Fatalf("Next(%+v, %d) = %+v: it is let in again", s, event, next)
			}
			if event != api.EFault && !s.Failed && next.Failed {
				t.Fatalf("Next(%+v, %d) = %+v: it is blamed", s, event, next)
			}
			s = next
		}
	}
}

// P49: one more, in the same mode, and no more than MaxFor.
func TestTick(t *testing.T) {
	for _, s := range states {
		for frames := range 10000 {
			mustTick(t, long(s, frames), long(s, frames+1))
		}
		mustTick(t, long(s, 10000), long(s, 10000))
	}
}

// P49: Check's error, and nothing beside it.
func TestTickWrong(t *testing.T) {
	for _, x := range wrong() {
		if got, e := Tick(x.s); got != (api.LaneState{}) || e != x.e {
			t.Fatalf("Tick(%+v) = %+v, %d, want nothing, %d", x.s, got, e, x.e)
		}
	}
}

// P49: one by one, and how many they are.
func TestAll(t *testing.T) {
	mustAll(t, standby, []int{api.EArm}, active, 1, api.OK)
	mustAll(t, standby, []int{api.EArm, api.EFault}, bypassed, 2, api.OK)
	mustAll(t, standby, []int{api.EFault, api.EArm}, bypassed, 2, api.OK)
	mustAll(t, standby, []int{api.EArm, api.EFault, api.EDamp, api.EFree, api.EArm, api.EReset, api.EArm}, active, 7, api.OK)
	mustAll(t, long(damped, 9), []int{api.EFault, api.EDry, api.EArm}, long(failedDamped, 9), 3, api.OK)
	// Away and back it is in its mode anew.
	mustAll(t, long(standby, 9), []int{api.EArm, api.EDisarm}, standby, 2, api.OK)
	mustAll(t, long(standby, 9), []int{api.EDisarm, api.EDry, api.EFree, api.EReset}, long(standby, 9), 4, api.OK)
}

// P49: of no event the state stays, and they are 0.
func TestAllOfNone(t *testing.T) {
	for _, s := range everyState() {
		mustAll(t, s, nil, s, 0, api.OK)
		mustAll(t, s, []int{}, s, 0, api.OK)
	}
}

// P49: at the first wrong event the state ahead of it, and its number; what stands
// behind it is nothing to it.
func TestAllWrongEvent(t *testing.T) {
	mustAll(t, standby, []int{api.EArm, 9}, active, 1, api.ErrArg)
	for _, s := range everyState() {
		for _, event := range notEvents {
			mustAll(t, s, []int{event}, s, 0, api.ErrArg)
			mustAll(t, s, []int{event, api.EDamp, 0}, s, 0, api.ErrArg)
			mustAll(t, s, []int{api.EFault, event, api.EReset}, workedNext(s, api.EFault), 1, api.ErrArg)
			mustAll(t, s, []int{api.EDamp, api.EReset, event}, standby, 2, api.ErrArg)
		}
	}
	events := []int{api.EArm, api.EDisarm, api.EArm, api.EFault, api.EDamp, api.EFree, api.EReset, api.EDamp}
	for at := range events {
		spoilt := slices.Clone(events)
		spoilt[at], spoilt[len(events)-1] = 0, 8
		want, many, _ := workedAll(standby, events[:at])
		mustAll(t, standby, spoilt, want, many, api.ErrArg)
		if many != at {
			t.Fatalf("%d events ahead of the wrong one, want %d", many, at)
		}
	}
}

// P49: Check's error comes ahead of all events, also if there are none; nothing is
// told beside it.
func TestAllWrongState(t *testing.T) {
	for _, x := range wrong() {
		for _, events := range [][]int{nil, {}, {api.EReset}, {api.EDamp, api.EReset}, {0}, {api.EArm, 8}, everyEvent} {
			mustAll(t, x.s, events, api.LaneState{}, 0, x.e)
		}
	}
}

// P49: each three events behind each state, and any others, are what they are one by
// one.
func TestAllEverywhere(t *testing.T) {
	for _, s := range everyState() {
		for _, a := range everyEvent {
			for _, b := range everyEvent {
				for c := 0; c <= 8; c++ {
					mustWork(t, s, []int{a, b, c})
				}
			}
		}
	}
	r := rand.New(rand.NewSource(49))
	for range 20000 {
		mustWork(t, someState(r), someEvents(r, r.Intn(40), 30))
	}
	for range 3000 {
		s, events := someState(r), someEvents(r, r.Intn(40), 0)
		want := s
		for _, event := range events {
			want, _ = Next(want, event)
		}
		mustAll(t, s, events, want, len(events), api.OK)
	}
}

// P49: there may be more of them than a list of numbers may have.
func TestAllOfMany(t *testing.T) {
	r := rand.New(rand.NewSource(149))
	for _, many := range []int{63, 64, 65, 1000, 300000} {
		events := someEvents(r, many, 0)
		mustWork(t, standby, events)
		events = append(events, 0)
		mustWork(t, standby, events)
	}
}

// P2: the events stay as they are, spare memory included, and what is told again is
// the same, whatever was asked between.
func TestNothingIsKept(t *testing.T) {
	r := rand.New(rand.NewSource(2))
	for range 3000 {
		s, memory := someState(r), someEvents(r, 30, 20)
		was := slices.Clone(memory)
		events := memory[:r.Intn(30)]
		want, many, e := All(s, events)
		if !slices.Equal(memory, was) {
			t.Fatalf("All left %v of %v", memory, was)
		}
		event := 1 + r.Intn(7)
		next, _ := Next(s, event)
		tick, _ := Tick(s)
		for range 3 {
			other := someState(r)
			Next(other, r.Intn(10))
			Tick(other)
			All(other, someEvents(r, 5, 5))
			All(unformed[r.Intn(3)], was)
		}
		mustAll(t, s, events, want, many, e)
		mustNext(t, s, event, next)
		mustTick(t, s, tick)
		// What is told hangs no more on the memory of the events.
		clear(memory)
		mustAll(t, s, was[:len(events)], want, many, e)
	}
}
