package agree

import (
	"math"
	"math/rand"
	"slices"
	"testing"

	"steadyhand/api"
	"steadyhand/vote"
)

const (
	most  = math.MaxInt32
	least = math.MinInt32
)

// notLanes are numbers that are no lane's, some of which have a lane's number in
// their lower bits.
var notLanes = []int{
	-1, 4, 5, -2, -3, -4, 7, 8, 64, 255, 256, -256, 65536, 1 << 31, 1 << 32, 1<<32 + 2, -1 << 32, math.MaxInt, math.MinInt,
}

// honest is the talk of lanes that have these numbers, and tell nothing else.
func honest(own [4]int32) api.Talk {
	var t api.Talk
	for i := range 4 {
		for j := range 4 {
			t.Said[i][j] = own[i]
			for k := range 4 {
				t.Told[i][j][k] = own[i]
			}
		}
	}
	return t
}

// toldOn has each lane but the liar tell on what it was told of the others.
func toldOn(t api.Talk, liar int) api.Talk {
	for i := range 4 {
		for j := range 4 {
			if j == liar {
				continue
			}
			for k := range 4 {
				t.Told[i][j][k] = t.Said[i][j]
			}
		}
	}
	return t
}

// scrambled is a talk in which all tell anything out of numbers.
func scrambled(r *rand.Rand, numbers []int32) api.Talk {
	var t api.Talk
	for i := range 4 {
		for j := range 4 {
			t.Said[i][j] = numbers[r.Intn(len(numbers))]
			for k := range 4 {
				t.Told[i][j][k] = numbers[r.Intn(len(numbers))]
			}
		}
	}
	return t
}

// anyTalks goes through many talks: of few numbers, so that some are alike, and
// of ends and of all numbers.
func anyTalks(seed int64, do func(api.Talk)) {
	r := rand.New(rand.NewSource(seed))
	for _, numbers := range [][]int32{
		{0, 1}, {5, 6}, {-1, 0, 1}, {1, 2, 3, 4}, {least, most}, {least, -1, 0, most}, {1, 65537, -65535},
	} {
		for range 3000 {
			do(scrambled(r, numbers))
		}
	}
	for range 3000 {
		wide := make([]int32, 6)
		for k := range wide {
			wide[k] = int32(r.Uint32())
		}
		do(scrambled(r, wide))
	}
}

func mustView(t *testing.T, talk api.Talk, k int, want [4]int32) {
	t.Helper()
	if got, e := View(talk, k); got != want || e != api.OK {
		t.Fatalf("View(%v, %d) = %v, %d, want %v, OK", talk, k, got, e, want)
	}
}

func mustMid(t *testing.T, talk api.Talk, k int, want int32) {
	t.Helper()
	if got, e := Mid(talk, k); got != want || e != api.OK {
		t.Fatalf("Mid(%v, %d) = %d, %d, want %d, OK", talk, k, got, e, want)
	}
}

func mustOdd(t *testing.T, talk api.Talk, k int, want [4]bool) {
	t.Helper()
	if got, e := Odd(talk, k); got != want || e != api.OK {
		t.Fatalf("Odd(%v, %d) = %v, %d, want %v, OK", talk, k, got, e, want)
	}
}

// P32 and P33: if nobody lies all know all.
func TestNobodyLies(t *testing.T) {
	for _, x := range []struct {
		own [4]int32
		mid int32
	}{
		{[4]int32{10, 20, 30, 40}, 20}, {[4]int32{40, 10, 30, 20}, 20}, {[4]int32{-1, -2, -3, -4}, -3},
		{[4]int32{}, 0}, {[4]int32{7, 7, 7, 7}, 7}, {[4]int32{9, 9, 9, -9}, 9}, {[4]int32{9, -9, -9, -9}, -9}, {[4]int32{5, 900, 6, 5}, 5},
		{[4]int32{least, most, least, most}, least}, {[4]int32{most, most, least, most}, most}, {[4]int32{least, least, least, least}, least},
		{[4]int32{most, 0, least, 1}, 0}, {[4]int32{0, 0, 65536, 65536}, 0},
	} {
		talk := honest(x.own)
		for k := range 4 {
			mustView(t, talk, k, x.own)
			mustMid(t, talk, k, x.mid)
			mustOdd(t, talk, k, [4]bool{})
		}
	}
}

// P32: of each lane two out of three words are enough, whichever they are; of
// three that differ it is 0.
func TestViewThreeWords(t *testing.T) {
	own := [4]int32{10, 20, 30, 40}
	for k := range 4 {
		for i := range 4 {
			if i == k {
				continue
			}
			by := slices.DeleteFunc([]int{0, 1, 2, 3}, func(j int) bool { return j == i || j == k })
			for _, x := range []struct {
				said, one, other int32
				want             int32
			}{
				{7, 7, 7, 7}, {7, 7, 8, 7}, {7, 8, 7, 7}, {8, 7, 7, 7}, {0, 9, 9, 9}, {9, 0, 0, 0}, {0, 0, 9, 0}, {0, 9, 0, 0},
				{7, 8, 9, 0}, {9, 8, 7, 0}, {0, 8, 9, 0}, {8, 0, 9, 0}, {8, 9, 0, 0}, {1, -1, 2, 0}, {most, least, -1, 0}, {1, 65537, 131073, 0},
				{most, least, most, most}, {least, least, most, least}, {-1, most, most, most}, {most - 1, most, least, 0},
			} {
				talk := honest(own)
				talk.Said[i][k], talk.Told[i][by[0]][k], talk.Told[i][by[1]][k] = x.said, x.one, x.other
				want := own
				want[i] = x.want
				mustView(t, talk, k, want)
			}
		}
	}
}

// P32: its own number is what it has, whatever the others tell of it.
func TestViewOwnNumber(t *testing.T) {
	for k := range 4 {
		talk := honest([4]int32{10, 20, 30, 40})
		for j := range 4 {
			talk.Said[k][j] = 99
			for n := range 4 {
				talk.Told[k][j][n] = 99
			}
		}
		talk.Said[k][k] = -5
		want := [4]int32{10, 20, 30, 40}
		want[k] = -5
		mustView(t, talk, k, want)
	}
}

// P32: beside a tally of the words; P33's Mid beside the second of the four in
// their order, and vote.Mid.
func TestViewAndMidEverywhere(t *testing.T) {
	anyTalks(32, func(talk api.Talk) {
		for k := range 4 {
			var want [4]int32
			for i := range 4 {
				tally := map[int32]int{talk.Said[i][k]: 1}
				for j := range 4 {
					if j != i && j != k {
						tally[talk.Told[i][j][k]]++
					}
				}
				for n, times := range tally {
					if times >= 2 {
						want[i] = n
					}
				}
			}
			want[k] = talk.Said[k][k]
			mustView(t, talk, k, want)
			sorted := slices.Sorted(slices.Values(want[:]))
			mustMid(t, talk, k, sorted[1])
			if n, e := vote.Mid(want[:], []bool{true, true, true, true}); n != sorted[1] || e != api.OK {
				t.Fatalf("vote.Mid(%v) = %d, %d, want %d, OK", want, n, e, sorted[1])
			}
		}
	})
}

// P33: all four are of the middle one's list, also those that are 0 as nothing is
// known, and also k's own one.
func TestMidOfAllFour(t *testing.T) {
	talk := honest([4]int32{10, 20, 30, 40})
	talk.Said[0] = [4]int32{10, 11, 12, 13}
	talk = toldOn(talk, 0)
	mustView(t, talk, 0, [4]int32{10, 20, 30, 40})
	mustMid(t, talk, 0, 20)
	for k := 1; k < 4; k++ {
		mustView(t, talk, k, [4]int32{0, 20, 30, 40})
		mustMid(t, talk, k, 20)
	}
	talk = honest([4]int32{-10, -20, -30, -40})
	talk.Said[3] = [4]int32{1, 2, 3, -40}
	talk = toldOn(talk, 3)
	for k := range 3 {
		mustView(t, talk, k, [4]int32{-10, -20, -30, 0})
		mustMid(t, talk, k, -20)
	}
	mustMid(t, talk, 3, -30)
}

// P33: only of who told both otherwise.
func TestOddOfBothOnly(t *testing.T) {
	own := [4]int32{10, 20, 30, 40}
	for k := range 4 {
		for j := range 4 {
			if j == k {
				continue
			}
			of := slices.DeleteFunc([]int{0, 1, 2, 3}, func(i int) bool { return i == j || i == k })
			for _, lie := range []int32{0, -1, 11, 50, 65546, most, least} {
				talk := honest(own)
				talk.Told[of[0]][j][k] = lie
				mustOdd(t, talk, k, [4]bool{})
				talk = honest(own)
				talk.Told[of[1]][j][k] = lie
				mustOdd(t, talk, k, [4]bool{})
				talk.Told[of[0]][j][k] = lie
				want := [4]bool{}
				want[j] = true
				mustOdd(t, talk, k, want)
				// To the others it told what is right.
				for n := range 4 {
					if n != k {
						mustOdd(t, talk, n, [4]bool{})
					}
				}
			}
		}
	}
}

// P33: it is what k itself was told that counts, not what is right, nor what k
// takes for right.
func TestOddIsBesideWhatWasSaid(t *testing.T) {
	talk := honest([4]int32{10, 20, 30, 40})
	talk.Said[1][0], talk.Said[2][0] = 21, 31
	mustView(t, talk, 0, [4]int32{10, 20, 30, 40})
	// Lane 3 told both otherwise; 1 of 2 alone, as of 3 it told what 3 said.
	mustOdd(t, talk, 0, [4]bool{3: true})
	talk.Told[1][3][0] = 21
	mustOdd(t, talk, 0, [4]bool{})
	talk.Said[3][0] = 41
	mustOdd(t, talk, 0, [4]bool{1: true, 2: true})
	talk.Told[1][3][0] = 20
	mustOdd(t, talk, 0, [4]bool{1: true, 2: true, 3: true})
}

// P33: nobody is Odd to itself, though all it was told is otherwise.
func TestOddNeverOneself(t *testing.T) {
	for k := range 4 {
		talk := honest([4]int32{10, 20, 30, 40})
		for i := range 4 {
			for j := range 4 {
				for n := range 4 {
					talk.Told[i][j][n] = -1
				}
			}
		}
		want := [4]bool{true, true, true, true}
		want[k] = false
		mustOdd(t, talk, k, want)
	}
}

// P33: beside a count of those of whom it told otherwise.
func TestOddEverywhere(t *testing.T) {
	anyTalks(33, func(talk api.Talk) {
		for k := range 4 {
			var otherwise [4]int
			for i := range 4 {
				for j := range 4 {
					if i != j && i != k && talk.Told[i][j][k] != talk.Said[i][k] {
						otherwise[j]++
					}
				}
			}
			var want [4]bool
			for j := range 4 {
				want[j] = j != k && otherwise[j] == 2
			}
			mustOdd(t, talk, k, want)
		}
	})
}

// P32 and P33: what k was not told, and what a lane is told of itself or tells of
// itself again, is not looked at.
func TestOnlyWhatItWasTold(t *testing.T) {
	r := rand.New(rand.NewSource(34))
	for range 3000 {
		talk := scrambled(r, []int32{1, 2, 3})
		for k := range 4 {
			view, _ := View(talk, k)
			mid, _ := Mid(talk, k)
			odd, _ := Odd(talk, k)
			other := scrambled(r, []int32{1, 2, 3, 4, least, most})
			for i := range 4 {
				other.Said[i][k] = talk.Said[i][k]
				for j := range 4 {
					if i != j && i != k && j != k {
						other.Told[i][j][k] = talk.Told[i][j][k]
					}
				}
			}
			mustView(t, other, k, view)
			mustMid(t, other, k, mid)
			mustOdd(t, other, k, odd)
		}
	}
}

// mustAgree checks what the chapter says of one liar: all others have one View,
// with the right numbers of each other in it, and none of these is Odd to them.
func mustAgree(t *testing.T, talk api.Talk, own [4]int32, liar int) {
	t.Helper()
	first := (liar + 1) % 4
	view, _ := View(talk, first)
	mid, _ := Mid(talk, first)
	for k := range 4 {
		if k == liar {
			continue
		}
		if view[k] != own[k] {
			t.Fatalf("View(%v, %d) = %v, want %d of lane %d", talk, first, view, own[k], k)
		}
		mustView(t, talk, k, view)
		mustMid(t, talk, k, mid)
		odd, e := Odd(talk, k)
		odd[liar] = false
		if odd != [4]bool{} || e != api.OK {
			t.Fatalf("Odd(%v, %d) = %v, %d beside liar %d, want none, OK", talk, k, odd, e, liar)
		}
	}
}

// P32 and P33: whatever one of four says: each way out of four numbers to tell
// the others its own one, and each way to tell or not to tell on what it heard.
func TestOneLies(t *testing.T) {
	for _, own := range [][4]int32{{10, 20, 30, 40}, {10, 10, 20, 20}, {}} {
		for liar := range 4 {
			numbers := [4]int32{own[liar], 10, 99, 0}
			for said := range 1 << 6 {
				talk := honest(own)
				for n := range 3 {
					talk.Said[liar][(liar+1+n)%4] = numbers[said>>(2*n)&3]
				}
				talk = toldOn(talk, liar)
				for told := range 1 << 9 {
					for n := range 9 {
						i, k := (liar+1+n/3)%4, (liar+1+n%3)%4
						talk.Told[i][liar][k] = own[i] + int32(told>>n&1)*10
					}
					mustAgree(t, talk, own, liar)
				}
			}
		}
	}
}

// P32 and P33: and with lies out of all numbers, of which some are alike.
func TestOneLiesAnything(t *testing.T) {
	r := rand.New(rand.NewSource(35))
	for range 20000 {
		lies := []int32{int32(r.Uint32()), int32(r.Uint32()), 0, least, most}[r.Intn(4):]
		own := [4]int32{int32(r.Uint32()), lies[0], int32(r.Uint32()), int32(r.Uint32())}
		liar := r.Intn(4)
		wild, talk := scrambled(r, lies), honest(own)
		talk.Said[liar] = wild.Said[liar]
		for i := range 4 {
			talk.Told[i][liar] = wild.Told[i][liar]
		}
		mustAgree(t, toldOn(talk, liar), own, liar)
	}
}

// P32 and P33: k is a lane's number.
func TestWrongLane(t *testing.T) {
	r := rand.New(rand.NewSource(1))
	talks := []api.Talk{{}, honest([4]int32{10, 20, 30, 40}), scrambled(r, []int32{1, 2}), scrambled(r, []int32{least, most, 5})}
	for _, talk := range talks {
		for _, k := range notLanes {
			if got, e := View(talk, k); got != [4]int32{} || e != api.ErrArg {
				t.Errorf("View(%v, %d) = %v, %d, want zeros, ErrArg", talk, k, got, e)
			}
			if got, e := Mid(talk, k); got != 0 || e != api.ErrArg {
				t.Errorf("Mid(%v, %d) = %d, %d, want 0, ErrArg", talk, k, got, e)
			}
			if got, e := Odd(talk, k); got != [4]bool{} || e != api.ErrArg {
				t.Errorf("Odd(%v, %d) = %v, %d, want none, ErrArg", talk, k, got, e)
			}
		}
	}
}

// P2: what is told hangs on what was handed in alone, and is the caller's own.
func TestNothingIsKept(t *testing.T) {
	r := rand.New(rand.NewSource(2))
	for range 1000 {
		talk := scrambled(r, []int32{1, 2, 3})
		was := talk
		for k := range 4 {
			view, _ := View(talk, k)
			mid, _ := Mid(talk, k)
			odd, _ := Odd(talk, k)
			wasView, wasOdd := view, odd
			view[k]++
			odd[k] = !odd[k]
			other := scrambled(r, []int32{1, 2, 3})
			View(other, r.Intn(4))
			Mid(other, r.Intn(4))
			Odd(other, r.Intn(4))
			View(other, 4)
			if talk != was {
				t.Fatalf("the talk %v was changed to %v", was, talk)
			}
			mustView(t, talk, k, wasView)
			mustMid(t, talk, k, mid)
			mustOdd(t, talk, k, wasOdd)
		}
	}
}
