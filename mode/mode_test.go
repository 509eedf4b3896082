package mode

import (
	"math"
	"testing"

	"steadyhand/api"
)

// notModes are numbers that are no mode, some of which have one in their lower
// bits.
var notModes = []int{
	0, 4, -1, -2, -3, 5, 6, 7, 8, 255, 256, 257, 258, 259, -253, -254, -255, 65537, 65538, 65539, 1 << 31, 1<<31 + 1,
	1 << 32, 1<<32 + 1, 1<<32 + 2, 1<<32 + 3, 1 - 1<<32, 2 - 1<<32, 3 - 1<<32, 1<<62 + 1, 1<<62 + 2, 1<<62 + 3,
	math.MaxInt, math.MinInt, math.MinInt + 1, math.MinInt + 2, math.MinInt + 3,
}

var modes = []int{api.MPreflight, api.MOperate, api.MService}

// rights are all states there are, by short texts: P, O or S for the mode, p
// for Passed, g for on Ground.
var rights = []string{"P--", "P-g", "Pp-", "Ppg", "Op-", "Opg", "S-g", "Spg"}

// wrongs are states that Check tells ErrForm of.
var wrongs = []string{"O--", "O-g", "S--", "Sp-"}

// state by its short text; of no text the zero state.
func state(text string) api.ModeState {
	if text == "" {
		return api.ModeState{}
	}
	number := map[byte]int{'P': api.MPreflight, 'O': api.MOperate, 'S': api.MService}
	return api.ModeState{Mode: number[text[0]], Passed: text[1] == 'p', Ground: text[2] == 'g'}
}

// errorBeside is what a table's text stands for: no text is ErrMode.
func errorBeside(text string) api.Errno {
	if text == "" {
		return api.ErrMode
	}
	return api.OK
}

// bothWays are the two that a bool may be.
var bothWays = []bool{false, true}

// wrongStates are all that Check tells an error of, and that error.
func wrongStates() map[api.ModeState]api.Errno {
	all := map[api.ModeState]api.Errno{}
	for _, text := range wrongs {
		all[state(text)] = api.ErrForm
	}
	for _, m := range notModes {
		for _, passed := range bothWays {
			for _, ground := range bothWays {
				all[api.ModeState{Mode: m, Passed: passed, Ground: ground}] = api.ErrArg
			}
		}
	}
	return all
}

// P64: the words by their numbers.
func TestModesByNumber(t *testing.T) {
	if api.MPreflight != 1 || api.MOperate != 2 || api.MService != 3 {
		t.Error(modes)
	}
}

// P64: Check of each state there is.
func TestCheckRight(t *testing.T) {
	for _, text := range rights {
		if e := Check(state(text)); e != api.OK {
			t.Errorf("%s: %d", text, e)
		}
	}
}

// P64: ErrArg of another Mode, whatever else; ErrForm of MOperate and not
// Passed, or MService and not on Ground.
func TestCheckWrong(t *testing.T) {
	for s, want := range wrongStates() {
		if e := Check(s); e != want {
			t.Errorf("%+v: %d, not %d", s, e, want)
		}
	}
}

// P64: with the states that are right and those that are wrong in their form
// none is left out.
func TestStatesAreAll(t *testing.T) {
	seen := map[api.ModeState]int{}
	for _, text := range append(append([]string{}, rights...), wrongs...) {
		seen[state(text)]++
	}
	if len(seen) != 12 || len(rights)+len(wrongs) != 12 {
		t.Error(seen)
	}
}

// asked are what comes of asking for MPreflight, MOperate and MService; no text
// where it is ErrMode.
var asked = map[string][3]string{
	"P--": {"P--", "", ""},
	"P-g": {"P-g", "", "S-g"},
	"Pp-": {"Pp-", "Op-", ""},
	"Ppg": {"Ppg", "Opg", "S-g"},
	"Op-": {"", "Op-", ""},
	"Opg": {"Ppg", "Opg", "S-g"},
	"S-g": {"P-g", "", "S-g"},
	"Spg": {"Ppg", "", "Spg"},
}

// P64: Ask in each state for each mode.
func TestAsk(t *testing.T) {
	if len(asked) != len(rights) {
		t.Fatal(len(asked))
	}
	for _, text := range rights {
		for k, want := range modes {
			next := asked[text][k]
			if s, e := Ask(state(text), want); s != state(next) || e != errorBeside(next) {
				t.Errorf("%s, %d: %+v, %d, not %q", text, want, s, e, next)
			}
		}
	}
}

// P64: what was not tried does not operate, on the ground or off it.
func TestNotTriedDoesNotOperate(t *testing.T) {
	for _, ground := range bothWays {
		s, e := Ask(api.ModeState{Mode: api.MPreflight, Ground: ground}, api.MOperate)
		if s != (api.ModeState{}) || e != api.ErrMode {
			t.Error(ground, s, e)
		}
	}
}

// P64: Ask for what is no mode, in each state there is.
func TestAskForNoMode(t *testing.T) {
	for _, text := range rights {
		for _, want := range notModes {
			if s, e := Ask(state(text), want); s != (api.ModeState{}) || e != api.ErrArg {
				t.Errorf("%s, %d: %+v, %d", text, want, s, e)
			}
		}
	}
}

// P64: Check's error goes ahead of what is wanted, be that a mode, the one it
// says it is in, or none.
func TestAskOfWrongState(t *testing.T) {
	for s, want := range wrongStates() {
		for _, m := range append(append([]int{s.Mode}, modes...), notModes...) {
			if next, e := Ask(s, m); next != (api.ModeState{}) || e != want {
				t.Errorf("%+v, %d: %+v, %d, not %d", s, m, next, e, want)
			}
		}
	}
}

// grounded are what comes of not being on ground, and of being there.
var grounded = map[string][2]string{
	"P--": {"P--", "P-g"},
	"P-g": {"P--", "P-g"},
	"Pp-": {"Pp-", "Ppg"},
	"Ppg": {"Pp-", "Ppg"},
	"Op-": {"Op-", "Opg"},
	"Opg": {"Op-", "Opg"},
	"S-g": {"P--", "S-g"},
	"Spg": {"Pp-", "Spg"},
}

// P65: Ground in each state, either way.
func TestGround(t *testing.T) {
	if len(grounded) != len(rights) {
		t.Fatal(len(grounded))
	}
	for _, text := range rights {
		for k, on := range bothWays {
			next := grounded[text][k]
			if s, e := Ground(state(text), on); s != state(next) || e != api.OK {
				t.Errorf("%s, %t: %+v, %d, not %q", text, on, s, e, next)
			}
		}
	}
}

// P65: Ground tells Check's error, also of MService that isn't on Ground and
// would be now.
func TestGroundOfWrongState(t *testing.T) {
	for s, want := range wrongStates() {
		for _, on := range bothWays {
			if next, e := Ground(s, on); next != (api.ModeState{}) || e != want {
				t.Errorf("%+v, %t: %+v, %d, not %d", s, on, next, e, want)
			}
		}
	}
}

// tested are what comes of a trial that is not passed, and of one that is; no
// text where it is ErrMode.
var tested = map[string][2]string{
	"P--": {"", ""},
	"P-g": {"P-g", "Ppg"},
	"Pp-": {"", ""},
	"Ppg": {"P-g", "Ppg"},
	"Op-": {"", ""},
	"Opg": {"", ""},
	"S-g": {"", ""},
	"Spg": {"", ""},
}

// P65: Tested in each state, either way.
func TestTested(t *testing.T) {
	if len(tested) != len(rights) {
		t.Fatal(len(tested))
	}
	for _, text := range rights {
		for k, pass := range bothWays {
			next := tested[text][k]
			if s, e := Tested(state(text), pass); s != state(next) || e != errorBeside(next) {
				t.Errorf("%s, %t: %+v, %d, not %q", text, pass, s, e, next)
			}
		}
	}
}

// P65: Tested tells Check's error ahead of ErrMode, also of MOperate that was
// not Passed and would be now.
func TestTestedOfWrongState(t *testing.T) {
	for s, want := range wrongStates() {
		for _, pass := range bothWays {
			if next, e := Tested(s, pass); next != (api.ModeState{}) || e != want {
				t.Errorf("%+v, %t: %+v, %d, not %d", s, pass, next, e, want)
			}
		}
	}
}

// nexts are all states that one call tells of this one without an error.
func nexts(s api.ModeState) []api.ModeState {
	var all []api.ModeState
	put := func(next api.ModeState, e api.Errno) {
		if e == api.OK {
			all = append(all, next)
		}
	}
	for _, want := range modes {
		put(Ask(s, want))
	}
	for _, way := range bothWays {
		put(Ground(s, way))
		put(Tested(s, way))
	}
	return all
}

// P64 and P65: what one call tells, each of the others takes; from one that
// was not tried all of them come about but MService that is Passed.
func TestWhatComesAbout(t *testing.T) {
	first := state("P-g")
	seen, left := map[api.ModeState]int{first: 1}, []api.ModeState{first}
	for len(left) > 0 {
		s := left[0]
		left = left[1:]
		if e := Check(s); e != api.OK {
			t.Errorf("%+v: %d", s, e)
		}
		for _, next := range nexts(s) {
			if seen[next] == 0 {
				seen[next] = 1
				left = append(left, next)
			}
		}
	}
	for _, text := range rights {
		if comes := seen[state(text)] == 1; comes != (text != "Spg") {
			t.Errorf("%s: %t", text, comes)
		}
	}
	if len(seen) != 7 {
		t.Error(seen)
	}
}

// P64 and P65: without a trial that was passed nothing operates, whatever else
// is done and in whatever order.
func TestNothingOperatesUntried(t *testing.T) {
	seen, left := map[api.ModeState]int{}, []api.ModeState{state("P-g"), state("P--"), state("S-g")}
	for len(left) > 0 {
		s := left[0]
		left = left[1:]
		if s.Passed || s.Mode == api.MOperate {
			t.Fatalf("%+v", s)
		}
		for _, next := range nexts(s) {
			if tried, e := Tested(s, true); e == api.OK && next == tried {
				continue
			}
			if seen[next] == 0 {
				seen[next] = 1
				left = append(left, next)
			}
		}
	}
}

// P64 and P65: a flight from its trial to its service.
func TestFlight(t *testing.T) {
	s := state("P-g")
	step := func(want string) func(api.ModeState, api.Errno) {
		return func(next api.ModeState, e api.Errno) {
			t.Helper()
			if next != state(want) || e != api.OK {
				t.Fatalf("%+v, %d, not %s", next, e, want)
			}
			s = next
		}
	}
	step("P-g")(Tested(s, false))
	step("Ppg")(Tested(s, true))
	step("Opg")(Ask(s, api.MOperate))
	step("Op-")(Ground(s, false))
	step("Opg")(Ground(s, true))
	step("Ppg")(Ask(s, api.MPreflight))
	step("Opg")(Ask(s, api.MOperate))
	step("S-g")(Ask(s, api.MService))
	step("S-g")(Ask(s, api.MService))
	step("P-g")(Ask(s, api.MPreflight))
	step("Ppg")(Tested(s, true))
	step("Pp-")(Ground(s, false))
	step("Op-")(Ask(s, api.MOperate))
	step("Opg")(Ground(s, true))
	step("S-g")(Ask(s, api.MService))
	step("P--")(Ground(s, false))
	step("P-g")(Ground(s, true))
}

// P1: each call answers, whatever it is given.
func TestWhateverIsGiven(t *testing.T) {
	for _, m := range append(append([]int{}, modes...), notModes...) {
		for bits := range 4 {
			s := api.ModeState{Mode: m, Passed: bits&1 == 1, Ground: bits&2 == 2}
			Check(s)
			for _, want := range append(append([]int{}, modes...), notModes...) {
				Ask(s, want)
			}
			for _, way := range bothWays {
				Ground(s, way)
				Tested(s, way)
			}
		}
	}
}

// P2: nothing is kept from call to call: what is told once is told again,
// whatever was asked between.
func TestNothingIsKept(t *testing.T) {
	var first [][]api.ModeState
	for range 2 {
		for k, text := range rights {
			told := nexts(state(text))
			if len(first) <= k {
				first = append(first, told)
				continue
			}
			if len(told) != len(first[k]) {
				t.Fatal(text, told, first[k])
			}
			for i := range told {
				if told[i] != first[k][i] {
					t.Error(text, told, first[k])
				}
			}
		}
		for s := range wrongStates() {
			nexts(s)
		}
	}
}
