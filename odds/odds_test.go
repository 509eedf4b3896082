package odds

import (
	"math"
	"math/big"
	"math/bits"
	"math/rand"
	"slices"
	"testing"

	"steadyhand/api"
	"steadyhand/cuts"
)

type (
	tree  = []api.Gate
	parts = [8]float64
)

// far are numbers some of which are right in their lower bits, and the ends of
// the type.
var far = []int{
	math.MinInt, math.MinInt + 1, math.MinInt + 2, math.MinInt + 4, -1 << 32, 1 - 1<<32, 3 - 1<<32,
	-1 << 16, 1 - 1<<16, 1 - 1<<8, -9, -8, -4, -3, -2, -1, 5, 8, 9, 64, 65, 128, 1 << 8, 1<<8 + 1, 1<<8 + 4,
	1 << 16, 1<<16 + 2, 1<<31 - 1, 1 << 31, 1 << 32, 1<<32 + 1, 1<<32 + 3, 1<<62 + 1, math.MaxInt - 1, math.MaxInt,
}

func part(n int) api.Gate            { return api.Gate{Kind: api.GPart, N: n} }
func and(of ...int) api.Gate         { return api.Gate{Kind: api.GAnd, Of: of} }
func or(of ...int) api.Gate          { return api.Gate{Kind: api.GOr, Of: of} }
func some(n int, of ...int) api.Gate { return api.Gate{Kind: api.GOf, N: n, Of: of} }

// eight is a tree's beginning: the gates 0 to 7 are the parts 0 to 7.
func eight() tree {
	var t tree
	for n := range 8 {
		t = append(t, part(n))
	}
	return t
}

// behind puts gates behind the eight parts.
func behind(gates ...api.Gate) tree { return append(eight(), gates...) }

// each is all parts with the same number.
func each(x float64) parts {
	var p parts
	for k := range p {
		p[k] = x
	}
	return p
}

func mustCount(t *testing.T, x tree) int {
	t.Helper()
	n, e := Count(x)
	if e != api.OK {
		t.Fatalf("Count of %v: %d", x, e)
	}
	return n
}

func mustWeigh(t *testing.T, x tree) [8]int {
	t.Helper()
	w, e := Weighs(x)
	if e != api.OK {
		t.Fatalf("Weighs of %v: %d", x, e)
	}
	return w
}

func mustOdds(t *testing.T, x tree, p parts) float64 {
	t.Helper()
	o, e := Odds(x, p)
	if e != api.OK {
		t.Fatalf("Odds of %v, %v: %d", x, p, e)
	}
	return o
}

// same: to the bit, so that a NaN is like itself and -0 unlike 0.
func same(a, b float64) bool { return math.Float64bits(a) == math.Float64bits(b) }

func copyOf(t tree) tree {
	c := slices.Clone(t)
	for k := range c {
		c[k].Of = slices.Clone(c[k].Of)
	}
	return c
}

// known are trees, with which sets they fail, told by a rule of their own, and what
// comes of that, by hand.
var known = []struct {
	name  string
	tree  tree
	fails func(s int) bool
	count int
	weigh [8]int
}{
	{"part 0", tree{part(0)}, func(s int) bool { return s%2 == 1 }, 128, [8]int{128}},
	{"part 7", tree{part(7)}, func(s int) bool { return s >= 128 }, 128, [8]int{7: 128}},
	{"part 3 behind others", tree{part(0), part(1), part(3)}, func(s int) bool { return s&8 != 0 }, 128, [8]int{3: 128}},
	{"the last one alone is asked", tree{part(0), and(), or(1, 0), part(6)}, func(s int) bool { return s&64 != 0 }, 128, [8]int{6: 128}},
	{"all of none", tree{and()}, func(int) bool { return true }, 256, [8]int{}},
	{"one of none", tree{or()}, func(int) bool { return false }, 0, [8]int{}},
	{"0 of none", tree{some(0)}, func(int) bool { return true }, 256, [8]int{}},
	{"1 of none", tree{some(1)}, func(int) bool { return false }, 0, [8]int{}},
	{"0 of three", behind(some(0, 2, 5, 6)), func(int) bool { return true }, 256, [8]int{}},
	{"4 of three", behind(some(4, 2, 5, 6)), func(int) bool { return false }, 0, [8]int{}},
	{"either", behind(or(0, 1)), func(s int) bool { return s&3 != 0 }, 192, [8]int{64, 64}},
	{"both", behind(and(0, 1)), func(s int) bool { return s&3 == 3 }, 64, [8]int{64, 64}},
	{"either of 6 and 7", behind(or(6, 7)), func(s int) bool { return s >= 64 }, 192, [8]int{6: 64, 7: 64}},
	{"1 of three", behind(some(1, 2, 5, 6)), func(s int) bool { return s&0b1100100 != 0 }, 224, [8]int{2: 32, 5: 32, 6: 32}},
	{"2 of three", behind(some(2, 2, 5, 6)), func(s int) bool { return bits.OnesCount(uint(s&0b1100100)) >= 2 }, 128, [8]int{2: 64, 5: 64, 6: 64}},
	{"3 of three", behind(some(3, 2, 5, 6)), func(s int) bool { return s&0b1100100 == 0b1100100 }, 32, [8]int{2: 32, 5: 32, 6: 32}},
	{"2 of one once and one twice", behind(some(2, 0, 1, 1)), func(s int) bool { return s&2 != 0 }, 128, [8]int{1: 128}},
	{"all of six", behind(and(0, 1, 2, 3, 4, 5)), func(s int) bool { return s&63 == 63 }, 4, [8]int{4, 4, 4, 4, 4, 4}},
	{"one of six", behind(or(2, 3, 4, 5, 6, 7)), func(s int) bool { return s&252 != 0 }, 252, [8]int{2: 4, 3: 4, 4: 4, 5: 4, 6: 4, 7: 4}},
	{"all of eight", behind(and(0, 1, 2, 3), and(8, 4, 5, 6, 7)), func(s int) bool { return s == 255 }, 1, [8]int{1, 1, 1, 1, 1, 1, 1, 1}},
	{"one of eight", behind(or(0, 1, 2, 3), or(8, 4, 5, 6, 7)), func(s int) bool { return s != 0 }, 255, [8]int{1, 1, 1, 1, 1, 1, 1, 1}},
	{
		"0 and 1, or 2", tree{part(0), part(1), part(2), and(0, 1), or(3, 2)},
		func(s int) bool { return s&3 == 3 || s&4 != 0 }, 160, [8]int{32, 32, 96},
	},
	{
		"2 of four lanes, oil 4 for lanes 0 and 1, oil 5 for the others",
		behind(or(0, 4), or(1, 4), or(2, 5), or(3, 5), some(2, 8, 9, 10, 11)),
		func(s int) bool { return s&48 != 0 || bits.OnesCount(uint(s&15)) >= 2 },
		192 + 4*11, [8]int{4 * 3, 4 * 3, 4 * 3, 4 * 3, 4 * 5, 4 * 5},
	},
}

// P70: the document's example, and others by hand.
func TestCount(t *testing.T) {
	for _, c := range known {
		n := 0
		for s := range 256 {
			if c.fails(s) {
				n++
			}
		}
		if n != c.count {
			t.Fatalf("%s: by the rule %d, by hand %d", c.name, n, c.count)
		}
		if n := mustCount(t, c.tree); n != c.count {
			t.Errorf("%s: %d, not %d", c.name, n, c.count)
		}
	}
}

// P71: by hand.
func TestWeighs(t *testing.T) {
	for _, c := range known {
		if w := mustWeigh(t, c.tree); w != c.weigh {
			t.Errorf("%s: %v, not %v", c.name, w, c.weigh)
		}
	}
}

// P71: each part alone, by its number.
func TestWeighsOfEachPart(t *testing.T) {
	for n := range 8 {
		var want [8]int
		want[n] = 128
		if w := mustWeigh(t, tree{part(n)}); w != want {
			t.Errorf("part %d: %v", n, w)
		}
		p := each(0.25)
		p[n] = 0.75
		if o := mustOdds(t, tree{part(n)}, p); o < 0.75-1e-9 || o > 0.75+1e-9 {
			t.Errorf("part %d: %v", n, o)
		}
	}
}

// P71: numbers that a float holds as they are, so that nothing is rounded.
func TestOddsThatAreNotRounded(t *testing.T) {
	first := func(p ...float64) (l parts) {
		copy(l[:], p)
		return l
	}
	for _, c := range []struct {
		tree tree
		p    parts
		want float64
	}{
		{behind(or(0, 1)), first(0.5, 0.25), 0.625},
		{behind(and(0, 1)), first(0.5, 0.25), 0.125},
		{behind(and(0, 1)), first(1, 1), 1},
		{behind(and(0, 1)), first(1, 0), 0},
		{behind(or(0, 1)), first(0, 1), 1},
		{behind(or(0, 1)), first(0, 0), 0},
		{behind(or(0, 1)), first(0, 0, 1, 1, 1, 1, 1, 1), 0},
		{tree{part(2)}, first(0.25, 0.25, 0.75, 0.25, 0.25, 0.25, 0.25, 0.25), 0.75},
		{tree{part(7)}, parts{7: 0.125}, 0.125},
		{tree{and()}, each(0.5), 1},
		{tree{and()}, each(0), 1},
		{tree{and()}, each(1), 1},
		{tree{or()}, each(0.5), 0},
		{tree{or()}, each(1), 0},
		{behind(and(0, 1, 2, 3), and(8, 4, 5, 6, 7)), each(0.5), 1.0 / 256},
		{behind(and(0, 1, 2, 3), and(8, 4, 5, 6, 7)), each(0.25), 1.0 / 65536},
		{behind(or(0, 1, 2, 3), or(8, 4, 5, 6, 7)), each(0.25), 1 - 6561.0/65536},
		{behind(some(2, 2, 5, 6)), parts{0.5, 0.5, 0.25, 0.5, 0.5, 0.5, 0.75, 0.5}, 0.5},
		{tree{part(0), part(1), part(2), and(0, 1), or(3, 2)}, first(0.5, 0.5, 0.25), 0.4375},
	} {
		if o := mustOdds(t, c.tree, c.p); !same(o, c.want) {
			t.Errorf("%v, %v: %v, not %v", c.tree, c.p, o, c.want)
		}
	}
}

// P71: what is rounded, step by step in that order, worked beforehand by another
// language's floats of 64 bits; in another order most of these come out otherwise.
func TestOddsThatAreRounded(t *testing.T) {
	rising, slight := parts{0.1, 0.2, 0.3, 0.4, 0.5, 0.6, 0.7, 0.8}, parts{0.001, 0.002, 0.003, 0.004, 0.5, 0.9, 0.99, 0.999}
	tiny := parts{1e-5, 3e-7, 1e-9, 2e-4, 1e-300, 1e-30, 1e-8, 0.7}
	either, both, always := behind(or(0, 1)), behind(and(0, 1)), tree{and()}
	two := behind(some(2, 2, 5, 6))
	lanes := behind(or(0, 4), or(1, 4), or(2, 5), or(3, 5), some(2, 8, 9, 10, 11))
	for _, c := range []struct {
		name string
		tree tree
		p    parts
		want float64
	}{
		{"either, rising", either, rising, 0x1.1eb851eb851edp-2},
		{"both, rising", both, rising, 0x1.47ae147ae1479p-6},
		{"always, rising", always, rising, 0x1.ffffffffffffbp-1},
		{"two, rising", two, rising, 0x1.1db22d0e56041p-1},
		{"lanes, rising", lanes, rising, 0x1.b3eff1950331bp-1},
		{"part 7, rising", tree{part(7)}, rising, 0x1.9999999999997p-1},
		{"always, 0.1", always, each(0.1), 0x1.000000000000ap+0},
		{"both, 0.1", both, each(0.1), 0x1.47ae147ae1485p-7},
		{"part 0, 0.1", tree{part(0)}, each(0.1), 0x1.999999999997ep-4},
		{"part 7, 0.1", tree{part(7)}, each(0.1), 0x1.999999999997dp-4},
		{"lanes, 0.1", lanes, each(0.1), 0x1.dbe121ee674eep-3},
		{"either, slight", either, slight, 0x1.88f42fe825180p-9},
		{"both, slight", both, slight, 0x1.0c6f7a0b5ed8dp-19},
		{"always, slight", always, slight, 0x1.ffffffffffffep-1},
		{"lanes, tiny", lanes, tiny, 0x1.1b90b76e44659p-29},
		{"both, tiny", both, tiny, 0x1.a636641c4df1ap-39},
	} {
		if o := mustOdds(t, c.tree, c.p); !same(o, c.want) {
			t.Errorf("%s: %x, not %x", c.name, o, c.want)
		}
	}
}

// P71: a p from 0 to 1 is right, both ends among them, and -0, which is 0; the
// next ones outside aren't, nor is a NaN, whatever its sign and bits, in any part,
// also one that no gate is.
func TestWrongOdds(t *testing.T) {
	negativeZero := math.Copysign(0, -1)
	right := []float64{0, negativeZero, math.SmallestNonzeroFloat64, 1e-300, 0.5, math.Nextafter(1, 0), 1}
	wrong := []float64{
		-math.SmallestNonzeroFloat64, math.Nextafter(1, 2), -1e-300, -0.5, -1, -2, 1.5, 2, 255, 256, 1e300,
		math.MaxFloat64, -math.MaxFloat64, math.Inf(1), math.Inf(-1), math.NaN(), -math.NaN(),
		math.Float64frombits(0x7ff0000000000001), math.Float64frombits(0xfff8000000000000), math.Float64frombits(0xffffffffffffffff),
	}
	for n := range 8 {
		for _, x := range []tree{{part(0)}, {and()}, {or()}, behind(or(0, 1)), behind(and(6, 7))} {
			for _, base := range []float64{0, 0.5, 1} {
				p := each(base)
				for _, p[n] = range right {
					if o, e := Odds(x, p); e != api.OK || !(o >= 0 && o < 1.001) {
						t.Errorf("%v, %v: %v, %d", x, p, o, e)
					}
				}
				for _, p[n] = range wrong {
					if o, e := Odds(x, p); e != api.ErrArg || !same(o, 0) {
						t.Errorf("%v, %v: %v, %d", x, p, o, e)
					}
				}
			}
		}
	}
	if o := mustOdds(t, behind(and(0, 1)), each(negativeZero)); !same(o, 0) {
		t.Error("from 0 on, so never -0:", o)
	}
}

// wrongTrees are such as cuts.Check tells an error of.
func wrongTrees() map[api.Errno][]tree {
	long := make(tree, 31)
	for k := range long {
		long[k] = part(0)
	}
	l := map[api.Errno][]tree{
		api.ErrLarge: {nil, {}, long, make(tree, 31), make(tree, 300), {part(0), and(0, 0, 0, 0, 0, 0, 0)}, {part(0), or(5, 5, 5, 5, 5, 5, 5), {}}},
		api.ErrForm: {
			{{}}, make(tree, 30), {and(0)}, {part(0), or(1)}, {part(0), or(0, -1)}, {part(0), {}, part(1)}, {part(8)}, {part(-1)},
			{{Kind: api.GPart, Of: []int{0}}}, {{Kind: api.GAnd, N: 1}}, {{Kind: api.GOr, N: -1}}, {some(2)}, {some(-1)},
			{part(0), some(3, 0)}, {part(0), some(-1, 0)}, {part(0), part(8), part(0)},
		},
	}
	for _, n := range far {
		l[api.ErrForm] = append(l[api.ErrForm], tree{part(0), {Kind: n}}, tree{part(0), or(n)}, tree{part(0), some(n, 0, 0)})
	}
	return l
}

// P70, P71: cuts.Check's error, ahead of that of a wrong p, and nothing beside it.
func TestEachCallTellsCheck(t *testing.T) {
	for want, l := range wrongTrees() {
		for _, x := range l {
			if e := cuts.Check(x); e != want {
				t.Fatalf("%v: Check tells %d, not %d", x, e, want)
			}
			if n, e := Count(x); n != 0 || e != want {
				t.Errorf("Count of %v: %d, %d, not %d", x, n, e, want)
			}
			if w, e := Weighs(x); w != [8]int{} || e != want {
				t.Errorf("Weighs of %v: %v, %d, not %d", x, w, e, want)
			}
			for _, p := range []parts{{}, each(0.5), each(1), each(2), each(-1), each(math.NaN()), {7: math.NaN()}, {0: math.Inf(1)}} {
				if o, e := Odds(x, p); !same(o, 0) || e != want {
					t.Errorf("Odds of %v, %v: %v, %d, not %d", x, p, o, e, want)
				}
			}
		}
	}
}

// fails: another way than by cuts: from the last gate down, by what each part and
// gate asks for.
func fails(x tree, k, set int) bool {
	g := x[k]
	all, one, many := true, false, 0
	for _, n := range g.Of {
		is := fails(x, n, set)
		all, one = all && is, one || is
		if is {
			many++
		}
	}
	switch g.Kind {
	case api.GPart:
		return slices.Contains([]int{1, 3, 5, 7, 9, 11, 13, 15}, set>>g.N%16)
	case api.GAnd:
		return all
	case api.GOr:
		return one
	}
	return many >= g.N
}

// rounded: what is nearest to a product, or to a sum, of two floats, by numbers
// long enough to hold it as it is.
func rounded(x *big.Float) float64 {
	near, _ := x.Float64()
	return near
}

func long(x float64) *big.Float {
	return new(big.Float).SetPrec(5000).SetFloat64(x)
}

func workedTimes(a, b float64) float64 {
	return rounded(new(big.Float).SetPrec(5000).Mul(long(a), long(b)))
}

func workedPlus(a, b float64) float64 {
	return rounded(new(big.Float).SetPrec(5000).Add(long(a), long(b)))
}

// worked is Odds another way.
func worked(x tree, p parts) float64 {
	sum := 0.0
	for set := range 256 {
		if !fails(x, len(x)-1, set) {
			continue
		}
		chance := 1.0
		for k, rest := 0, set; k < 8; k, rest = k+1, rest/2 {
			if rest%2 == 1 {
				chance = workedTimes(chance, p[k])
			} else {
				chance = workedTimes(chance, workedPlus(1, -p[k]))
			}
		}
		sum = workedPlus(sum, chance)
	}
	return sum
}

// someTree is a right one, drawn, that may be walked from its last gate down in a
// short time.
func someTree(r *rand.Rand) tree {
	x := eight()
	r.Shuffle(len(x), func(i, j int) { x[i], x[j] = x[j], x[i] })
	x = x[:1+r.Intn(8)]
	for range r.Intn(4) {
		of := r.Perm(len(x))
		of = of[:r.Intn(min(len(of), 6)+1)]
		x = append(x, []api.Gate{and(of...), or(of...), some(r.Intn(len(of)+2), of...), part(r.Intn(8))}[r.Intn(4)])
	}
	if r.Intn(4) == 0 {
		return x
	}
	a, b := r.Perm(len(x)), r.Perm(len(x))
	few := min(len(x), 6)
	x = append(x, some(r.Intn(few+2), a[:few]...), some(1+r.Intn(few), b[:few]...), or(b[:few/2]...))
	return append(x, some(1+r.Intn(3), len(x)-1, len(x)-2, len(x)-3))
}

// someOdds are right ones, drawn: near the ends, tiny, short in their digits, any.
func someOdds(r *rand.Rand) parts {
	var p parts
	for k := range p {
		switch r.Intn(8) {
		case 0:
			p[k] = float64(r.Intn(2))
		case 1:
			p[k] = math.Ldexp(r.Float64(), -r.Intn(1070))
		case 2:
			p[k] = 1 - math.Ldexp(r.Float64(), -r.Intn(60))
		case 3:
			p[k] = float64(r.Intn(101)) / 100
		default:
			p[k] = r.Float64()
		}
	}
	return p
}

// P70, P71: drawn trees.
func TestCountAndWeighsEverywhere(t *testing.T) {
	r := rand.New(rand.NewSource(7001))
	counts := map[int]int{}
	for range 1500 {
		x := someTree(r)
		with, without, count := [8]int{}, [8]int{}, 0
		for set := range 256 {
			if !fails(x, len(x)-1, set) {
				continue
			}
			count++
			for k := range 8 {
				if set/(1<<k)%2 == 1 {
					with[k]++
				} else {
					without[k]++
				}
			}
		}
		counts[count]++
		if n := mustCount(t, x); n != count {
			t.Fatalf("%v: %d, not %d", x, n, count)
		}
		w := mustWeigh(t, x)
		for k := range w {
			if w[k] != with[k]-without[k] {
				t.Fatalf("%v: part %d: %d, not %d less %d", x, k, w[k], with[k], without[k])
			}
		}
	}
	if len(counts) < 40 {
		t.Error(counts)
	}
}

// P71: drawn trees with drawn odds, to the last bit.
func TestOddsEverywhere(t *testing.T) {
	r := rand.New(rand.NewSource(7101))
	between := 0
	for range 600 {
		x, p := someTree(r), someOdds(r)
		want := worked(x, p)
		if want > 0 && want < 0.99 {
			between++
		}
		if o := mustOdds(t, x, p); !same(o, want) {
			t.Fatalf("%v, %v: %x, not %x", x, p, o, want)
		}
	}
	if between < 200 {
		t.Error(between)
	}
}

// P71: products too small for a float are rounded step by step too.
func TestOddsThatVanish(t *testing.T) {
	r := rand.New(rand.NewSource(7102))
	least, none := 0, 0
	for range 300 {
		x := behind(and(0, 1, 2), and(8, r.Intn(8)))
		p := each(0.5)
		for k := range 3 {
			p[k] = math.Ldexp(r.Float64(), -345-r.Intn(20))
		}
		want := worked(x, p)
		if want == 0 {
			none++
		} else if want < math.Ldexp(1, -1022) {
			least++
		}
		if o := mustOdds(t, x, p); !same(o, want) {
			t.Fatalf("%v, %v: %x, not %x", x, p, o, want)
		}
	}
	if least < 50 || none < 50 {
		t.Error(least, none)
	}
}

// P70, P71: what the calls tell of the same tree fits together: with each part as
// likely to fail as not the odds are the sets counted, and what a part weighs is
// what changes with it.
func TestCountWeighsAndOdds(t *testing.T) {
	r := rand.New(rand.NewSource(7103))
	for range 400 {
		x := someTree(r)
		if o, n := mustOdds(t, x, each(0.5)), mustCount(t, x); o*256 != float64(n) {
			t.Fatalf("%v: %v, %d", x, o, n)
		}
		w := mustWeigh(t, x)
		for k := range w {
			with, without := each(0.5), each(0.5)
			with[k], without[k] = 1, 0
			if d := mustOdds(t, x, with) - mustOdds(t, x, without); d*128 != float64(w[k]) {
				t.Fatalf("%v: part %d: %v, %d", x, k, d, w[k])
			}
		}
	}
}

// P70, P71: as many gates as there may be, each asking twice for the one ahead.
func TestHighTree(t *testing.T) {
	x := tree{part(4)}
	for len(x) < 30 {
		k := len(x) - 1
		x = append(x, []api.Gate{and(k, k, k, k, k, k), or(k, k), some(2, k, k)}[k%3])
	}
	if n, w := mustCount(t, x), mustWeigh(t, x); n != 128 || w != [8]int{4: 128} {
		t.Error(n, w)
	}
	if o := mustOdds(t, x, parts{4: 0.375}); o != 0.375 {
		t.Error(o)
	}
}

// P1: whatever is given.
func TestWhateverIsGiven(t *testing.T) {
	r := rand.New(rand.NewSource(7104))
	number := func() int {
		if r.Intn(4) == 0 {
			return far[r.Intn(len(far))]
		}
		return r.Intn(12) - 2
	}
	for range 20000 {
		x := make(tree, r.Intn(34))
		for k := range x {
			x[k] = api.Gate{Kind: number(), N: number(), Of: make([]int, r.Intn(9))}
			for i := range x[k].Of {
				x[k].Of[i] = number()
			}
		}
		var p parts
		for k := range p {
			p[k] = math.Float64frombits(r.Uint64())
		}
		Count(x)
		Weighs(x)
		Odds(x, p)
		Odds(eight()[:1+r.Intn(8)], p)
	}
}

// withSpare is a tree with memory behind it and behind each Of.
func withSpare(x tree) tree {
	s := append(copyOf(x), make(tree, 5)...)
	for k := range s {
		s[k].Of = append(slices.Clone(s[k].Of), 71, 72, 73)[:len(s[k].Of)]
	}
	return s[: len(x) : len(x)+5]
}

// sameSpare: are both alike with all the memory behind them?
func sameSpare(a, b tree) bool {
	return slices.EqualFunc(a[:cap(a)], b[:cap(b)], func(x, y api.Gate) bool {
		return x.Kind == y.Kind && x.N == y.N && len(x.Of) == len(y.Of) && slices.Equal(x.Of[:len(x.Of)+3], y.Of[:len(y.Of)+3])
	})
}

// P2: nothing that is handed in is changed, the memory behind it included.
func TestNothingIsChanged(t *testing.T) {
	r := rand.New(rand.NewSource(7105))
	var all []tree
	for _, l := range wrongTrees() {
		all = append(all, l...)
	}
	for range 200 {
		all = append(all, someTree(r))
	}
	for _, x := range all {
		given, before := withSpare(x), withSpare(x)
		p := someOdds(r)
		was := p
		Count(given)
		Weighs(given)
		Odds(given, p)
		Odds(given, each(2))
		if !sameSpare(given, before) || p != was {
			t.Fatalf("%v, %v: %v, %v", before, was, given, p)
		}
	}
}

// P2: nothing is kept: what was answered once is answered again, whatever was done
// with the tree and with other calls in between.
func TestNothingIsKept(t *testing.T) {
	r := rand.New(rand.NewSource(7106))
	for range 200 {
		x, p := someTree(r), someOdds(r)
		given := copyOf(x)
		n, w, o := mustCount(t, x), mustWeigh(t, x), mustOdds(t, x, p)
		for k := range x {
			clear(x[k].Of)
			x[k] = part(1)
		}
		mustOdds(t, x, someOdds(r))
		other := someTree(r)
		mustCount(t, other)
		mustWeigh(t, other)
		mustOdds(t, other, someOdds(r))
		Odds(other, each(2))
		Count(nil)
		if mustCount(t, given) != n || mustWeigh(t, given) != w || !same(mustOdds(t, given, p), o) {
			t.Fatalf("%v, %v: not %d, %v, %v again", given, p, n, w, o)
		}
	}
}
