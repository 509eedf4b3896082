package cuts

import (
	"math"
	"math/bits"
	"math/rand"
	"slices"
	"testing"

	"steadyhand/api"
)

type (
	tree = []api.Gate
	sets = []uint16
)

// far are numbers some of which are right in their lower bits, and the ends of
// the type.
var far = []int{
	math.MinInt, math.MinInt + 1, math.MinInt + 2, math.MinInt + 4, -1 << 32, 1 - 1<<32, 2 - 1<<32, 4 - 1<<32,
	-1 << 16, 1 - 1<<16, -1 << 8, 1 - 1<<8, 2 - 1<<8, 3 - 1<<8, 4 - 1<<8, -9, -8, -7, -4, -3, -2, -1,
	64, 65, 66, 68, 128, 129, 1 << 8, 1<<8 + 1, 1<<8 + 2, 1<<8 + 3, 1<<8 + 4, 1 << 16, 1<<16 + 1, 1<<16 + 2, 1<<16 + 4,
	1<<31 - 1, 1 << 31, 1<<31 + 1, 1 << 32, 1<<32 + 1, 1<<32 + 2, 1<<32 + 3, 1<<32 + 4, 1<<62 + 1, math.MaxInt - 1, math.MaxInt,
}

func part(n int) api.Gate            { return api.Gate{Kind: api.GPart, N: n} }
func and(of ...int) api.Gate         { return api.Gate{Kind: api.GAnd, Of: of} }
func or(of ...int) api.Gate          { return api.Gate{Kind: api.GOr, Of: of} }
func some(n int, of ...int) api.Gate { return api.Gate{Kind: api.GOf, N: n, Of: of} }

// eight is a tree's beginning: the gates 0 to 7 are the parts 0 to 7.
func eight() tree {
	var t tree
	for n := range 8 {
		t = append(t, part(n))
	}
	return t
}

// behind puts gates behind the eight parts.
func behind(gates ...api.Gate) tree { return append(eight(), gates...) }

// times is so many times the same number.
func times(many, n int) []int { return slices.Repeat([]int{n}, many) }

func mustCuts(t *testing.T, x tree) sets {
	t.Helper()
	l, e := Cuts(x)
	if e != api.OK {
		t.Fatalf("Cuts of %v: %d", x, e)
	}
	return l
}

func mustFail(t *testing.T, x tree, parts uint16) bool {
	t.Helper()
	is, e := Fails(x, parts)
	if e != api.OK {
		t.Fatalf("Fails of %v, %d: %d", x, parts, e)
	}
	return is
}

func mustDual(t *testing.T, x tree) tree {
	t.Helper()
	d, e := Dual(x)
	if e != api.OK {
		t.Fatalf("Dual of %v: %d", x, e)
	}
	return d
}

func mustAcross(t *testing.T, l sets) sets {
	t.Helper()
	a, e := Across(l)
	if e != api.OK {
		t.Fatalf("Across of %v: %d", l, e)
	}
	return a
}

// sameTrees, lists that are nil or empty being alike.
func sameTrees(a, b tree) bool {
	return slices.EqualFunc(a, b, func(x, y api.Gate) bool {
		return x.Kind == y.Kind && x.N == y.N && slices.Equal(x.Of, y.Of)
	})
}

func copyOf(t tree) tree {
	c := slices.Clone(t)
	for k := range c {
		c[k].Of = slices.Clone(c[k].Of)
	}
	return c
}

// someOf are numbers of gates ahead of this one, drawn.
func someOf(r *rand.Rand, ahead int) []int {
	if ahead == 0 {
		return nil
	}
	of := make([]int, r.Intn(7))
	for k := range of {
		of[k] = r.Intn(ahead)
	}
	return of
}

// someGate is a right one, drawn.
func someGate(r *rand.Rand, ahead int) api.Gate {
	kind := 1 + r.Intn(4)
	if ahead < 3 || r.Intn(4) == 0 {
		kind = api.GPart
	}
	if r.Intn(15) == 0 {
		kind = 1 + r.Intn(4)
	}
	switch kind {
	case api.GPart:
		return part(r.Intn(8))
	case api.GAnd:
		return and(someOf(r, ahead)...)
	case api.GOr:
		return or(someOf(r, ahead)...)
	}
	of := someOf(r, ahead)
	return some(r.Intn(len(of)+2), of...)
}

// someTree is a right one, drawn; its last gate has gates in Of where it can.
func someTree(r *rand.Rand) tree {
	var t tree
	for range 1 + r.Intn(29) {
		t = append(t, someGate(r, len(t)))
	}
	if len(t) > 4 && r.Intn(8) > 0 {
		last := []int{len(t) - 1, len(t) - 2, r.Intn(len(t)), r.Intn(len(t))}
		t = append(t, some(1+r.Intn(3), last...))
	}
	return t
}

// P66: the words and bounds by their numbers.
func TestNumbers(t *testing.T) {
	if api.GPart != 1 || api.GAnd != 2 || api.GOr != 3 || api.GOf != 4 {
		t.Error(api.GPart, api.GAnd, api.GOr, api.GOf)
	}
	if api.MaxGates != 30 || api.MaxParts != 8 || api.MaxOf != 6 || api.MaxSets != 100 {
		t.Error(api.MaxGates, api.MaxParts, api.MaxOf, api.MaxSets)
	}
}

// P66: each part there is, each Of there may be, and each N of a GOf.
func TestCheckRight(t *testing.T) {
	all := []tree{eight(), {and()}, {or()}, {some(0)}, {some(1)}}
	for n := range 8 {
		all = append(all, tree{part(n)}, tree{{Kind: api.GPart, N: n, Of: []int{}}})
	}
	for many := range 7 {
		of := []int{7, 0, 7, 3, 1, 0}[:many]
		all = append(all, behind(and(of...)), behind(or(of...)))
		for n := range many + 2 {
			all = append(all, behind(some(n, of...)))
		}
	}
	all = append(all, tree{part(3), and(0), or(1), some(1, 2), part(0), or(4, 3, 2, 1, 0, 0)})
	for _, x := range all {
		if e := Check(x); e != api.OK {
			t.Errorf("%v: %d", x, e)
		}
	}
}

// P66: 1 to 30 gates; ErrLarge of others, whatever the gates are.
func TestHowManyGates(t *testing.T) {
	for many := range 200 {
		x, wrong := make(tree, many), make(tree, many)
		for k := range x {
			x[k] = part(k % 8)
		}
		want := api.ErrLarge
		if many >= 1 && many <= 30 {
			want = api.OK
		}
		if e := Check(x); e != want {
			t.Errorf("%d: %d, not %d", many, e, want)
		}
		if e := Check(wrong); want != api.OK && e != want {
			t.Errorf("%d wrong ones: %d, not %d", many, e, want)
		}
	}
	if e := Check(nil); e != api.ErrLarge {
		t.Error(e)
	}
	if e := Check(make(tree, 1<<16+1)); e != api.ErrLarge {
		t.Error(e)
	}
}

// P66: the last of 30 gates is looked at too, and may name those ahead of it.
func TestThirty(t *testing.T) {
	x := make(tree, 30)
	for k := range x {
		x[k] = part(k % 8)
	}
	x[29] = or(28, 0)
	if e := Check(x); e != api.OK {
		t.Error(e)
	}
	x[29] = or(28, 29)
	if e := Check(x); e != api.ErrForm {
		t.Error(e)
	}
	x[29] = or(28, 28, 28, 28, 28, 28, 28)
	if e := Check(x); e != api.ErrLarge {
		t.Error(e)
	}
}

// P66: ErrForm of what is no kind, whatever else it has.
func TestWrongKind(t *testing.T) {
	for _, kind := range append([]int{0, 5, 6, 7, 8, 9}, far...) {
		for _, g := range []api.Gate{{}, {N: 1}, {Of: []int{0}}, {N: 1, Of: []int{0}}, {Of: times(7, 0)}} {
			g.Kind = kind
			if e := Check(behind(g)); e != api.ErrForm {
				t.Errorf("%v: %d", g, e)
			}
		}
	}
}

// P66: ErrForm of a part that isn't from 0 to 7, or has anything in Of.
func TestWrongPart(t *testing.T) {
	for _, n := range append([]int{8, 9, 10}, far...) {
		if e := Check(tree{part(n)}); e != api.ErrForm {
			t.Errorf("part %d: %d", n, e)
		}
	}
	for _, of := range [][]int{{0}, {1}, {0, 0}, {-1}, {9}, {8}, times(6, 0), times(7, 0), times(9, -1)} {
		for n := range 8 {
			if e := Check(behind(api.Gate{Kind: api.GPart, N: n, Of: of})); e != api.ErrForm {
				t.Errorf("part %d with %v: %d", n, of, e)
			}
		}
	}
}

// P66: ErrForm of a GAnd or GOr with an N that isn't 0, and of a GOf with an N
// that isn't from 0 to one more than there are in Of.
func TestWrongN(t *testing.T) {
	for many := range 7 {
		of := times(many, 2)
		for _, n := range append([]int{1, 2, 3, 4, 5, 6, 7, 8}, far...) {
			for _, kind := range []int{api.GAnd, api.GOr} {
				if e := Check(behind(api.Gate{Kind: kind, N: n, Of: of})); e != api.ErrForm {
					t.Errorf("%d, N %d of %v: %d", kind, n, of, e)
				}
			}
		}
		for _, n := range append([]int{many + 2, many + 3, 9, 10}, far...) {
			if e := Check(behind(some(n, of...))); e != api.ErrForm {
				t.Errorf("N %d of %v: %d", n, of, e)
			}
		}
	}
}

// P66: ErrLarge of more than six in Of, whatever their numbers are; but ErrForm of
// a wrong N ahead of that.
func TestTooManyOf(t *testing.T) {
	for _, many := range []int{7, 8, 9, 31, 100, 256, 259, 1<<16 + 1} {
		for _, n := range []int{0, 7, -1, 8, 1 << 40} {
			of := times(many, n)
			for _, g := range []api.Gate{and(of...), or(of...), some(0, of...), some(many, of...), some(many+1, of...)} {
				if e := Check(behind(g)); e != api.ErrLarge {
					t.Errorf("%d, N %d of %d times %d: %d", g.Kind, g.N, many, n, e)
				}
			}
			for _, g := range []api.Gate{{Kind: 2, N: 1, Of: of}, {Kind: 3, N: -1, Of: of}, some(-1, of...), some(many+2, of...)} {
				if e := Check(behind(g)); e != api.ErrForm {
					t.Errorf("%d, N %d of %d times %d: %d", g.Kind, g.N, many, n, e)
				}
			}
		}
	}
}

// P66: ErrForm of a number in Of, at each place in it, that is not of a gate ahead.
func TestWrongOf(t *testing.T) {
	for ahead := range 9 {
		x := eight()[:ahead]
		for _, n := range append([]int{ahead, ahead + 1, ahead + 2, 8, 9, 29, 30}, far...) {
			for place := range 6 {
				of := times(6, 0)
				if ahead == 0 {
					of, place = times(1, 0), 0
				}
				of[place] = n
				for _, g := range []api.Gate{and(of...), or(of...), some(1, of...), some(0, of...)} {
					if e := Check(append(slices.Clone(x), g, part(1), part(2))); e != api.ErrForm {
						t.Errorf("%v behind %d: %d", g, ahead, e)
					}
				}
			}
		}
	}
}

// P66: gate by gate: the first one that is wrong tells its error.
func TestGateByGate(t *testing.T) {
	large, form, of := and(times(7, 0)...), part(8), or(29)
	for want, all := range map[api.Errno][]tree{
		api.ErrLarge: {{part(0), large, form}, {large, of}, {part(1), large, api.Gate{}}},
		api.ErrForm:  {{part(0), form, large}, {of, large}, {part(1), {}, large}, {part(1), or(0, 1), large}, {part(0), of, large}},
	} {
		for _, x := range all {
			if e := Check(x); e != want {
				t.Errorf("%v: %d, not %d", x, e, want)
			}
		}
	}
}

// workedCheck is Check another way: all that is wrong is set down first.
func workedCheck(x tree) api.Errno {
	if len(x) == 0 || len(x) > 30 {
		return api.ErrLarge
	}
	for k, g := range x {
		highest := map[int]int{1: 7, 2: 0, 3: 0, 4: len(g.Of) + 1}
		high, known := highest[g.Kind]
		form := known && slices.Contains(within(high), g.N) && (g.Kind != 1 || len(g.Of) == 0)
		outside := slices.ContainsFunc(g.Of, func(n int) bool { return !slices.Contains(within(k-1), n) })
		switch {
		case !form:
			return api.ErrForm
		case len(g.Of) > 6:
			return api.ErrLarge
		case outside:
			return api.ErrForm
		}
	}
	return api.OK
}

// within are the numbers from 0 to this one.
func within(high int) []int {
	var l []int
	for n := 0; n <= high; n++ {
		l = append(l, n)
	}
	return l
}

// spoil changes one thing of a right tree.
func spoil(r *rand.Rand, x tree) tree {
	x = copyOf(x)
	k := r.Intn(len(x))
	g := &x[k]
	switch r.Intn(6) {
	case 0:
		g.Kind = r.Intn(7)
	case 1:
		g.N += r.Intn(19) - 9
	case 2:
		g.Of = append(g.Of, r.Intn(len(x)+1))
	case 3:
		g.Of = times(r.Intn(9), r.Intn(len(x)))
	case 4:
		if len(g.Of) > 0 {
			g.Of[r.Intn(len(g.Of))] = k + r.Intn(4) - 2
		}
	default:
		g.N = far[r.Intn(len(far))]
	}
	return x
}

// wrongTrees are drawn: some that Check tells an error of.
func wrongTrees(r *rand.Rand, many int) []tree {
	var l []tree
	for len(l) < many {
		if x := spoil(r, someTree(r)); workedCheck(x) != api.OK {
			l = append(l, x)
		}
	}
	return append(l, nil, tree{}, make(tree, 31), make(tree, 30), make(tree, 1))
}

// P66: drawn trees, spoilt once, twice or not.
func TestCheckEverywhere(t *testing.T) {
	r := rand.New(rand.NewSource(6601))
	counts := map[api.Errno]int{}
	for range 30000 {
		x := someTree(r)
		for range r.Intn(3) {
			x = spoil(r, x)
		}
		want := workedCheck(x)
		counts[want]++
		if e := Check(x); e != want {
			t.Fatalf("%v: %d, not %d", x, e, want)
		}
	}
	if len(counts) != 3 || counts[api.ErrLarge] < 500 || counts[api.ErrForm] < 5000 || counts[api.OK] < 5000 {
		t.Error(counts)
	}
}

// P67, P68, P69: Check's error is told by each call that is given a tree, and
// nothing beside it.
func TestEachCallTellsCheck(t *testing.T) {
	for _, x := range wrongTrees(rand.New(rand.NewSource(6701)), 3000) {
		want := workedCheck(x)
		for _, parts := range []uint16{0, 1, 255, 65535} {
			if is, e := Fails(x, parts); is || e != want {
				t.Fatalf("Fails of %v: %t, %d, not %d", x, is, e, want)
			}
		}
		if l, e := Cuts(x); l != nil || e != want {
			t.Fatalf("Cuts of %v: %v, %d, not %d", x, l, e, want)
		}
		if d, e := Dual(x); d != nil || e != want {
			t.Fatalf("Dual of %v: %v, %d, not %d", x, d, e, want)
		}
	}
}

// failing are trees, and with which sets they fail, told by a rule of their own.
var failing = []struct {
	name  string
	tree  tree
	fails func(s uint16) bool
}{
	{"part 0", tree{part(0)}, func(s uint16) bool { return s%2 == 1 }},
	{"part 7", tree{part(7)}, func(s uint16) bool { return s&128 != 0 }},
	{"part 3 behind others", tree{part(0), part(1), part(3)}, func(s uint16) bool { return s&8 != 0 }},
	{"all of none", tree{and()}, func(uint16) bool { return true }},
	{"one of none", tree{or()}, func(uint16) bool { return false }},
	{"0 of none", tree{some(0)}, func(uint16) bool { return true }},
	{"1 of none", tree{some(1)}, func(uint16) bool { return false }},
	{"all of one", behind(and(4)), func(s uint16) bool { return s&16 != 0 }},
	{"one of one", behind(or(4)), func(s uint16) bool { return s&16 != 0 }},
	{"both", behind(and(0, 1)), func(s uint16) bool { return s&3 == 3 }},
	{"either", behind(or(0, 1)), func(s uint16) bool { return s&3 != 0 }},
	{"0 of three", behind(some(0, 2, 5, 6)), func(uint16) bool { return true }},
	{"1 of three", behind(some(1, 2, 5, 6)), func(s uint16) bool { return s&0b1100100 != 0 }},
	{"2 of three", behind(some(2, 2, 5, 6)), func(s uint16) bool { return bits.OnesCount16(s&0b1100100) >= 2 }},
	{"3 of three", behind(some(3, 2, 5, 6)), func(s uint16) bool { return s&0b1100100 == 0b1100100 }},
	{"4 of three", behind(some(4, 2, 5, 6)), func(uint16) bool { return false }},
	{"six of six", behind(and(0, 1, 2, 3, 4, 5)), func(s uint16) bool { return s&63 == 63 }},
	{"one of six", behind(or(2, 3, 4, 5, 6, 7)), func(s uint16) bool { return s&^3&255 != 0 }},
	{"2 of the same twice", behind(some(2, 1, 1)), func(s uint16) bool { return s&2 != 0 }},
	{"2 of one once and one twice", behind(some(2, 0, 1, 1)), func(s uint16) bool { return s&2 != 0 }},
	{"3 of one once and one twice", behind(some(3, 0, 1, 1)), func(s uint16) bool { return s&3 == 3 }},
	{"all of the same twice", behind(and(1, 1)), func(s uint16) bool { return s&2 != 0 }},
	{"one of the same twice", behind(or(1, 1)), func(s uint16) bool { return s&2 != 0 }},
	{"the same part from two gates", tree{part(5), part(5), some(2, 0, 1)}, func(s uint16) bool { return s&32 != 0 }},
	{"0 and 1, or 2", tree{part(0), part(1), part(2), and(0, 1), or(3, 2)}, func(s uint16) bool { return s&3 == 3 || s&4 != 0 }},
	{"the last one alone is asked", tree{part(0), and(), or(1, 0), part(6)}, func(s uint16) bool { return s&64 != 0 }},
	{"a gate of one that always fails", tree{part(1), and(), and(0, 1)}, func(s uint16) bool { return s&2 != 0 }},
	{"a gate of one that never fails", tree{part(1), or(), or(0, 1)}, func(s uint16) bool { return s&2 != 0 }},
	{
		"gates used twice",
		behind(or(0, 1), and(8, 2), or(8, 3), some(2, 8, 9, 10)),
		func(s uint16) bool { return s&3 != 0 },
	},
	{
		"2 of four lanes, oil 4 for lanes 0 and 1, oil 5 for the others",
		behind(or(0, 4), or(1, 4), or(2, 5), or(3, 5), some(2, 8, 9, 10, 11)),
		func(s uint16) bool { return s&48 != 0 || bits.OnesCount16(s&15) >= 2 },
	},
}

// P67: with each set of parts.
func TestFails(t *testing.T) {
	for _, c := range failing {
		for s := range uint16(256) {
			if is := mustFail(t, c.tree, s); is != c.fails(s) {
				t.Errorf("%s: %08b: %t", c.name, s, is)
			}
		}
	}
}

// P67: that there are parts above 7 in a set changes nothing.
func TestFailsOfPartsThatNoGateIs(t *testing.T) {
	for _, c := range failing {
		for high := range uint16(256) {
			for _, low := range []uint16{0, 1, 2, 3, 7, 16, 32, 64, 127, 128, 254, 255} {
				if is := mustFail(t, c.tree, high<<8|low); is != c.fails(low) {
					t.Errorf("%s: %016b: %t", c.name, high<<8|low, is)
				}
			}
		}
	}
}

// P67: a tree as high as there may be: each gate asks for the one ahead of it.
func TestHighTree(t *testing.T) {
	x := tree{part(2)}
	for len(x) < 30 {
		k := len(x) - 1
		x = append(x, []api.Gate{and(k, k), or(k), some(1, k), some(5, k, k, k, k, k)}[k%4])
	}
	for s := range uint16(256) {
		if is := mustFail(t, x, s); is != (s&4 != 0) {
			t.Errorf("%08b: %t", s, is)
		}
	}
	if l := mustCuts(t, x); !slices.Equal(l, sets{4}) {
		t.Error(l)
	}
}

// workedFails is Fails another way: from the last gate down, by what each part and
// gate asks for.
func workedFails(x tree, k int, parts uint16) bool {
	g := x[k]
	all, one, many := true, false, 0
	for _, n := range g.Of {
		is := workedFails(x, n, parts)
		all, one = all && is, one || is
		if is {
			many++
		}
	}
	return map[int]bool{1: parts&(1<<max(g.N, 0)) != 0, 2: all, 3: one, 4: many >= g.N}[g.Kind]
}

// lowTree is a right one, drawn, that may be walked from its last gate down in a
// short time.
func lowTree(r *rand.Rand) tree {
	x := eight()
	r.Shuffle(len(x), func(i, j int) { x[i], x[j] = x[j], x[i] })
	x = x[:1+r.Intn(8)]
	for range r.Intn(6) {
		x = append(x, someGate(r, len(x)))
	}
	if r.Intn(4) == 0 {
		return x
	}
	a, b, c := r.Perm(len(x)), r.Perm(len(x)), r.Perm(len(x))
	few := min(len(x), 6)
	x = append(x, some(r.Intn(few+2), a[:few]...), some(1+r.Intn(few), b[:few]...), or(c[:few/2]...))
	return append(x, some(1+r.Intn(3), len(x)-1, len(x)-2, len(x)-3))
}

// P67: drawn trees with each set.
func TestFailsEverywhere(t *testing.T) {
	r := rand.New(rand.NewSource(6702))
	counts := map[bool]int{}
	for range 400 {
		x := lowTree(r)
		for s := range uint16(256) {
			want := workedFails(x, len(x)-1, s)
			counts[want]++
			if is := mustFail(t, x, s); is != want {
				t.Fatalf("%v: %08b: %t", x, s, is)
			}
		}
	}
	if counts[true] < 10000 || counts[false] < 10000 {
		t.Error(counts)
	}
}

// P67: what fails fails with more parts too.
func TestMorePartsMend(t *testing.T) {
	r := rand.New(rand.NewSource(6703))
	for range 300 {
		x := someTree(r)
		for s := range uint16(256) {
			more := s | 1<<r.Intn(8)
			if mustFail(t, x, s) && !mustFail(t, x, more) {
				t.Fatalf("%v: %08b, not %08b", x, s, more)
			}
		}
	}
}

// inFour are the sets of four of eight parts, in their order.
func inFour() sets {
	return sets{
		15, 23, 27, 29, 30, 39, 43, 45, 46, 51, 53, 54, 57, 58, 60, 71, 75, 77, 78, 83, 85, 86, 89, 90, 92, 99, 101, 102,
		105, 106, 108, 113, 114, 116, 120, 135, 139, 141, 142, 147, 149, 150, 153, 154, 156, 163, 165, 166, 169, 170, 172,
		177, 178, 180, 184, 195, 197, 198, 201, 202, 204, 209, 210, 212, 216, 225, 226, 228, 232, 240,
	}
}

// four of eight, made of gates that have no more than six: how many of the parts 0
// to 3 there are, and how many of the parts 4 to 7.
func fourOfEight() tree {
	x := behind(some(1, 0, 1, 2, 3), some(2, 0, 1, 2, 3), some(3, 0, 1, 2, 3), some(4, 0, 1, 2, 3))
	x = append(x, some(1, 4, 5, 6, 7), some(2, 4, 5, 6, 7), some(3, 4, 5, 6, 7), some(4, 4, 5, 6, 7))
	return append(x, and(8, 14), and(9, 13), and(10, 12), or(11, 15, 16, 17, 18))
}

// P68: trees with their sets worked out by hand.
func TestCuts(t *testing.T) {
	for _, c := range []struct {
		name string
		tree tree
		want sets
	}{
		{"the one or the other", tree{part(0), part(1), or(0, 1)}, sets{1, 2}},
		{"the other or the one", tree{part(1), part(0), or(0, 1)}, sets{1, 2}},
		{"both", tree{part(0), part(1), and(0, 1)}, sets{3}},
		{"part 0", tree{part(0)}, sets{1}},
		{"part 7", tree{part(7)}, sets{128}},
		{"one of none", tree{or()}, nil},
		{"2 of one", behind(some(2, 3)), nil},
		{"all of none", tree{and()}, sets{0}},
		{"0 of two", behind(some(0, 3, 4)), sets{0}},
		{"what always fails, or a part", tree{part(1), and(), or(0, 1)}, sets{0}},
		{"what never fails, and a part", tree{part(1), or(), and(0, 1)}, nil},
		{"2 of three", behind(some(2, 0, 1, 2)), sets{3, 5, 6}},
		{"2 of six", behind(some(2, 7, 6, 5, 4, 3, 2)), sets{12, 20, 24, 36, 40, 48, 68, 72, 80, 96, 132, 136, 144, 160, 192}},
		{"one of six", behind(or(7, 2, 6, 3, 5, 4)), sets{4, 8, 16, 32, 64, 128}},
		{"six", behind(and(7, 2, 6, 3, 5, 4)), sets{252}},
		{"all eight", behind(and(0, 1, 2, 3), and(4, 5, 6, 7), and(8, 9)), sets{255}},
		{"one of eight", behind(or(0, 1, 2, 3), or(4, 5, 6, 7), or(8, 9)), sets{1, 2, 4, 8, 16, 32, 64, 128}},
		{"0 and 1, or 2: fewer parts first", behind(and(0, 1), or(8, 2)), sets{4, 3}},
		{"0 and 1 and 2, or 3 and 4, or 7", behind(and(0, 1, 2), and(3, 4), or(7, 8, 9)), sets{128, 24, 7}},
		{"6 and 7, or 0 and 1 and 2", behind(and(0, 1, 2), and(6, 7), or(8, 9)), sets{192, 7}},
		{"2 of one once and one twice", behind(some(2, 0, 1, 1)), sets{2}},
		{"2 of one twice and two once", behind(some(2, 0, 1, 1, 2)), sets{2, 5}},
		{"part 1, or part 1 and part 0", behind(and(0, 1), or(8, 1)), sets{2}},
		{"either, and either of others", behind(or(0, 1), or(1, 2), and(8, 9)), sets{2, 5}},
		{"not what stands ahead of the last one", tree{part(0), and(), or(0, 1), part(6)}, sets{64}},
		{"2 of four lanes, with their oil", behind(or(0, 4), or(1, 4), or(2, 5), or(3, 5), some(2, 8, 9, 10, 11)), sets{16, 32, 3, 5, 6, 9, 10, 12}},
		{"3 of four lanes, with their oil", behind(or(0, 4), or(1, 4), or(2, 5), or(3, 5), some(3, 8, 9, 10, 11)), sets{20, 24, 33, 34, 48, 7, 11, 13, 14}},
		{"four of eight: as many as there may be", fourOfEight(), inFour()},
	} {
		if l := mustCuts(t, c.tree); !slices.Equal(l, c.want) {
			t.Errorf("%s: %v, not %v", c.name, l, c.want)
		}
	}
}

// byOrder: those with fewer parts first, of as many the smaller number first.
func byOrder(a, b uint16) int {
	if d := bits.OnesCount16(a) - bits.OnesCount16(b); d != 0 {
		return d
	}
	return int(a) - int(b)
}

// worked keeps those of which no other lies within, in their order.
func worked(holds func(s uint16) bool) sets {
	var all, l sets
	for s := range uint16(256) {
		if holds(s) {
			all = append(all, s)
		}
	}
	for _, s := range all {
		if !slices.ContainsFunc(all, func(o uint16) bool { return o != s && o&s == o }) {
			l = append(l, s)
		}
	}
	slices.SortFunc(l, byOrder)
	return l
}

// P68: the trees of P67, and drawn ones.
func TestCutsEverywhere(t *testing.T) {
	for _, c := range failing {
		if l := mustCuts(t, c.tree); !slices.Equal(l, worked(c.fails)) {
			t.Errorf("%s: %v, not %v", c.name, l, worked(c.fails))
		}
	}
	r := rand.New(rand.NewSource(6801))
	counts := map[int]int{}
	for range 600 {
		x := lowTree(r)
		want := worked(func(s uint16) bool { return workedFails(x, len(x)-1, s) })
		counts[len(want)]++
		if l := mustCuts(t, x); !slices.Equal(l, want) {
			t.Fatalf("%v: %v, not %v", x, l, want)
		}
	}
	if len(counts) < 20 {
		t.Error(counts)
	}
}

// P69: trees with their duals by hand.
func TestDual(t *testing.T) {
	for _, c := range []struct{ tree, want tree }{
		{tree{part(0)}, tree{part(0)}},
		{eight(), eight()},
		{tree{and()}, tree{or()}},
		{tree{or()}, tree{and()}},
		{tree{some(0)}, tree{some(1)}},
		{tree{some(1)}, tree{some(0)}},
		{behind(and(3, 1, 3)), behind(or(3, 1, 3))},
		{behind(or(3, 1, 3)), behind(and(3, 1, 3))},
		{behind(some(0, 5)), behind(some(2, 5))},
		{behind(some(1, 5)), behind(some(1, 5))},
		{behind(some(2, 5)), behind(some(0, 5))},
		{behind(some(0, 6, 2)), behind(some(3, 6, 2))},
		{behind(some(1, 6, 2)), behind(some(2, 6, 2))},
		{behind(some(2, 6, 2)), behind(some(1, 6, 2))},
		{behind(some(3, 6, 2)), behind(some(0, 6, 2))},
		{behind(some(2, 2, 1, 0)), behind(some(2, 2, 1, 0))},
		{behind(some(1, 5, 4, 3, 2, 1, 0)), behind(some(6, 5, 4, 3, 2, 1, 0))},
		{behind(some(3, 5, 4, 3, 2, 1, 0)), behind(some(4, 5, 4, 3, 2, 1, 0))},
		{behind(some(7, 5, 4, 3, 2, 1, 0)), behind(some(0, 5, 4, 3, 2, 1, 0))},
		{
			tree{part(0), part(1), part(2), and(0, 1), or(3, 2), some(1, 4, 3, 0), part(7), and()},
			tree{part(0), part(1), part(2), or(0, 1), and(3, 2), some(3, 4, 3, 0), part(7), or()},
		},
	} {
		if d := mustDual(t, c.tree); !sameTrees(d, c.want) {
			t.Errorf("%v: %v, not %v", c.tree, d, c.want)
		}
	}
}

// P69: a dual is a right tree; its own is the tree again; and it fails with the
// parts with which the tree doesn't fail with the others.
func TestDualEverywhere(t *testing.T) {
	r := rand.New(rand.NewSource(6901))
	for range 500 {
		x := someTree(r)
		d := mustDual(t, x)
		if e := Check(d); e != api.OK {
			t.Fatalf("%v: %v: %d", x, d, e)
		}
		if again := mustDual(t, d); !sameTrees(again, x) {
			t.Fatalf("%v: %v: %v", x, d, again)
		}
		for s := range uint16(256) {
			if mustFail(t, d, s) == mustFail(t, x, 255-s) {
				t.Fatalf("%v: %v: %08b", x, d, s)
			}
		}
	}
}

// P69: the sets of the dual are those across the tree's, and the other way round.
func TestDualAndAcross(t *testing.T) {
	r := rand.New(rand.NewSource(6902))
	all := []tree{fourOfEight()}
	for range 300 {
		all = append(all, someTree(r))
	}
	for _, x := range all {
		own, dual := mustCuts(t, x), mustCuts(t, mustDual(t, x))
		if a := mustAcross(t, own); !slices.Equal(a, dual) {
			t.Fatalf("%v: %v, not %v", x, a, dual)
		}
		if a := mustAcross(t, dual); !slices.Equal(a, own) {
			t.Fatalf("%v: %v, not %v", x, a, own)
		}
	}
}

// P69: lists with what lies across worked out by hand.
func TestAcross(t *testing.T) {
	for _, c := range []struct{ list, want sets }{
		{nil, sets{0}},
		{sets{}, sets{0}},
		{sets{0}, nil},
		{sets{3, 0}, nil},
		{sets{0, 3}, nil},
		{sets{1}, sets{1}},
		{sets{128}, sets{128}},
		{sets{3}, sets{1, 2}},
		{sets{255}, sets{1, 2, 4, 8, 16, 32, 64, 128}},
		{sets{4, 3}, sets{5, 6}},
		{sets{3, 4}, sets{5, 6}},
		{sets{1, 2}, sets{3}},
		{sets{1, 1, 1}, sets{1}},
		{sets{1, 3}, sets{1}},
		{sets{3, 1}, sets{1}},
		{sets{3, 6}, sets{2, 5}},
		{sets{3, 5, 6}, sets{3, 5, 6}},
		{sets{7, 192}, sets{65, 66, 68, 129, 130, 132}},
		{sets{129, 130, 132}, sets{128, 7}},
		{sets{1, 2, 4, 8, 16, 32, 64, 128}, sets{255}},
		{sets{15, 240}, sets{17, 18, 20, 24, 33, 34, 36, 40, 65, 66, 68, 72, 129, 130, 132, 136}},
		{sets{255, 255, 192, 7, 7}, sets{65, 66, 68, 129, 130, 132}},
		{sets{16, 32, 3, 5, 6, 9, 10, 12}, sets{55, 59, 61, 62}},
	} {
		if a := mustAcross(t, c.list); !slices.Equal(a, c.want) {
			t.Errorf("%v: %v, not %v", c.list, a, c.want)
		}
	}
}

// P69: 100 sets may be given, and no more, whatever they are.
func TestHowManySets(t *testing.T) {
	for _, many := range []int{99, 100} {
		l := slices.Repeat(sets{96}, many)
		l[many-1] = 1
		if a := mustAcross(t, l); !slices.Equal(a, sets{33, 65}) {
			t.Errorf("%d: %v", many, a)
		}
		l[many-1] = 256
		if a, e := Across(l); a != nil || e != api.ErrArg {
			t.Errorf("%d: %v, %d", many, a, e)
		}
	}
	for _, many := range []int{101, 102, 128, 200, 256, 257, 300, 1 << 16, 1<<16 + 1} {
		for _, set := range []uint16{0, 1, 255, 256, 65535} {
			if a, e := Across(slices.Repeat(sets{set}, many)); a != nil || e != api.ErrLarge {
				t.Errorf("%d of %d: %v, %d", many, set, a, e)
			}
		}
	}
}

// P69: ErrArg of a part above 7, in any of them, whatever else they have.
func TestPartsAboveSeven(t *testing.T) {
	for high := range uint16(255) {
		for _, low := range []uint16{0, 1, 128, 255} {
			wrong := (high+1)<<8 | low
			for _, l := range []sets{{wrong}, {1, wrong}, {wrong, 1}, {0, wrong}, {wrong, 0}, {3, wrong, 5}} {
				if a, e := Across(l); a != nil || e != api.ErrArg {
					t.Errorf("%v: %v, %d", l, a, e)
				}
			}
		}
	}
}

// P69: drawn lists.
func TestAcrossEverywhere(t *testing.T) {
	r := rand.New(rand.NewSource(6903))
	counts := map[int]int{}
	for range 1500 {
		l := make(sets, r.Intn(9))
		if r.Intn(9) == 0 {
			l = make(sets, r.Intn(101))
		}
		for k := range l {
			l[k] = uint16(r.Intn(256) | r.Intn(256)&r.Intn(256))
		}
		want := worked(func(s uint16) bool {
			return !slices.ContainsFunc(l, func(o uint16) bool { return o&s == 0 })
		})
		counts[len(want)]++
		if a := mustAcross(t, l); !slices.Equal(a, want) {
			t.Fatalf("%v: %v, not %v", l, a, want)
		}
	}
	if len(counts) < 12 {
		t.Error(counts)
	}
}

// P1: whatever is given.
func TestWhateverIsGiven(t *testing.T) {
	r := rand.New(rand.NewSource(6904))
	number := func() int {
		if r.Intn(4) == 0 {
			return far[r.Intn(len(far))]
		}
		return r.Intn(12) - 2
	}
	for range 20000 {
		x := make(tree, r.Intn(34))
		for k := range x {
			x[k] = api.Gate{Kind: number(), N: number(), Of: make([]int, r.Intn(9))}
			for i := range x[k].Of {
				x[k].Of[i] = number()
			}
		}
		Check(x)
		Fails(x, uint16(r.Intn(1<<16)))
		Cuts(x)
		Dual(x)
		l := make(sets, r.Intn(110))
		for k := range l {
			l[k] = uint16(r.Intn(1 << (1 + r.Intn(16))))
		}
		Across(l)
	}
}

// withSpare is a tree with memory behind it and behind each Of.
func withSpare(x tree) tree {
	s := append(copyOf(x), make(tree, 5)...)
	for k := range s {
		s[k].Of = append(slices.Clone(s[k].Of), 71, 72, 73)[:len(s[k].Of)]
	}
	return s[:len(x)]
}

// sameSpare: are both alike with all the memory behind them?
func sameSpare(a, b tree) bool {
	return slices.EqualFunc(a[:cap(a)], b[:cap(b)], func(x, y api.Gate) bool {
		return x.Kind == y.Kind && x.N == y.N && len(x.Of) == len(y.Of) && slices.Equal(x.Of[:len(x.Of)+3], y.Of[:len(y.Of)+3])
	})
}

// clipped: memory behind it aside, so that what is compared is as long.
func clipped(x tree) tree { return x[: len(x)+5 : len(x)+5][:len(x)] }

// P2: nothing that is handed in is changed, the memory behind it included.
func TestNothingIsChanged(t *testing.T) {
	r := rand.New(rand.NewSource(6905))
	all := wrongTrees(r, 100)
	for range 200 {
		all = append(all, someTree(r))
	}
	for _, x := range all {
		given, before := clipped(withSpare(x)), clipped(withSpare(x))
		Check(given)
		Fails(given, 0)
		Fails(given, 65535)
		Cuts(given)
		Dual(given)
		if !sameSpare(given, before) {
			t.Fatalf("%v: %v", before, given)
		}
	}
	for range 200 {
		l := make(sets, 120)
		for k := range l {
			l[k] = uint16(r.Intn(257))
		}
		before := slices.Clone(l)
		Across(l[:r.Intn(110)])
		if !slices.Equal(l, before) {
			t.Fatalf("%v: %v", before, l)
		}
	}
}

// overwrite spoils a list of numbers with the memory behind it.
func overwrite(l []int) {
	for k := range l[:cap(l)] {
		l[:cap(l)][k] = -5
	}
}

// P2: what Dual answers shares no memory with the tree, nor one Of with another.
func TestDualIsNew(t *testing.T) {
	r := rand.New(rand.NewSource(6906))
	for range 200 {
		x := clipped(withSpare(someTree(r)))
		before := clipped(withSpare(x))
		d := mustDual(t, x)
		want := copyOf(d)
		for k := range d {
			overwrite(d[k].Of)
			d[k].Of = nil
			rest := want[k+1:]
			if !sameTrees(d[k+1:], rest) {
				t.Fatalf("gate %d shares with another: %v", k, d)
			}
		}
		for k := range d[:cap(d)] {
			d[:cap(d)][k] = api.Gate{Kind: 9}
		}
		if !sameSpare(x, before) {
			t.Fatalf("%v: %v", before, x)
		}
	}
}

// P2: where a tree's own Of share memory those of its dual don't.
func TestDualOfSharing(t *testing.T) {
	of := []int{0, 1, 2, 3}
	x := behind(and(of...), or(of[:2]...), some(2, of[1:]...), and(of...))
	d := mustDual(t, x)
	want := behind(or(0, 1, 2, 3), and(0, 1), some(2, 1, 2, 3), or(0, 1, 2, 3))
	if !sameTrees(d, want) {
		t.Fatal(d)
	}
	for k := 8; k < 12; k++ {
		overwrite(d[k].Of)
		want[k].Of = times(len(want[k].Of), -5)
		if !sameTrees(d, want) {
			t.Errorf("%d: %v", k, d)
		}
	}
	if !slices.Equal(of, []int{0, 1, 2, 3}) {
		t.Error(of)
	}
}

// P2: nothing is kept: what was answered once is answered again, whatever was done
// with the first answer, with what was handed in and with other calls in between.
func TestNothingIsKept(t *testing.T) {
	r := rand.New(rand.NewSource(6907))
	for range 200 {
		x, l := someTree(r), sets{uint16(r.Intn(256)), uint16(r.Intn(256)), uint16(r.Intn(256))}
		first, dual, across := mustCuts(t, x), mustDual(t, x), mustAcross(t, l)
		wantCuts, wantDual, wantAcross := slices.Clone(first), copyOf(dual), slices.Clone(across)
		given, givenSets := copyOf(x), slices.Clone(l)
		other := someTree(r)
		mustCuts(t, other)
		mustDual(t, other)
		mustAcross(t, sets{7})
		for k := range x {
			overwrite(x[k].Of)
			x[k] = api.Gate{}
		}
		clear(l)
		if !slices.Equal(first, wantCuts) || !sameTrees(dual, wantDual) || !slices.Equal(across, wantAcross) {
			t.Fatal("an answer shares memory")
		}
		for _, a := range []sets{first, across} {
			clear(a[:cap(a)])
		}
		for k := range dual {
			overwrite(dual[k].Of)
		}
		clear(dual)
		if a := mustCuts(t, given); !slices.Equal(a, wantCuts) {
			t.Fatalf("%v: %v, not %v", given, a, wantCuts)
		}
		if d := mustDual(t, given); !sameTrees(d, wantDual) {
			t.Fatalf("%v: %v, not %v", given, d, wantDual)
		}
		if a := mustAcross(t, givenSets); !slices.Equal(a, wantAcross) {
			t.Fatalf("%v: %v, not %v", givenSets, a, wantAcross)
		}
	}
}
