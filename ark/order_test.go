package ark_test

import (
	"fmt"
	"math/rand/v2"
	"slices"
	"testing"

	"pleach/api"
)

// wantWrong fails, if the ark of blocks isn't refused so, at the first byte of the block of that number, from 0 on.
func wantWrong(t *testing.T, what string, why api.Errno, number int, l ...string) {
	t.Helper()
	wantBad(t, what, arkOf(l...), why, begins(l...)[number])
}

// P13.2: a block twice is told at the second one, wherever it stands, whatever stands between.
func TestTwice(t *testing.T) {
	l := sorted(a, b, c, a2, f)
	for i, x := range l {
		for j := i + 1; j <= len(l); j++ {
			wantWrong(t, "one twice", api.ErrOrder, j, slices.Insert(slices.Clone(l), j, x)...)
		}
	}
	wantWrong(t, "thrice", api.ErrOrder, 1, a, a, a)
	wantWrong(t, "all twice", api.ErrOrder, len(l), slices.Concat(l, l)...)
}

// P13.2: a lesser one behind doesn't count, if it stands ahead already: the second one is told, not the greater one between.
func TestTwiceBehindGreater(t *testing.T) {
	two := sorted(a, a2)
	wantWrong(t, "the lesser one again", api.ErrOrder, 2, two[0], two[1], two[0])
	wantWrong(t, "the greater one again", api.ErrOrder, 2, two[0], two[1], two[1])
	least := below(two[1], 2, two[0])
	wantWrong(t, "one that was ready, again", api.ErrOrder, 3, two[0], least, two[1], least)
}

// P13.2: one whose parent isn't ahead is told, whether the parent is nowhere, or behind it.
func TestParentNotAhead(t *testing.T) {
	wantWrong(t, "nowhere", api.ErrOrder, 0, b)
	wantWrong(t, "nowhere, behind others", api.ErrOrder, 2, append(sorted(a, a2), c)...)
	wantWrong(t, "one of three nowhere", api.ErrOrder, 3, a, b, c, f)
	wantWrong(t, "another one of three nowhere", api.ErrOrder, 2, append(sorted(a, a2), f)...)
	wantWrong(t, "nowhere, told ahead of what is wrong behind it", api.ErrOrder, 0, b, b, c)
	wantWrong(t, "nowhere, and a clock that can't fit", api.ErrOrder, 0, made("y", 4096, gone))
	wantWrong(t, "nowhere, one of two, and a clock that doesn't fit the other", api.ErrOrder, 1, a, made("y", 9, a, gone))

	top := above(a, 1)
	kid := made("kid", 2, top)
	wantWrong(t, "behind it", api.ErrOrder, 1, a, kid, top)
	wantWrong(t, "right behind it, nothing ahead", api.ErrOrder, 0, b, a)
	wantWrong(t, "each behind the other", api.ErrOrder, 0, c, b, a)
}

// P13.2: a lesser one behind, all of whose parents are ahead, could have come first: the greater one is told, not the lesser one, however far behind that is.
func TestLesserBehind(t *testing.T) {
	two := sorted(a, a2)
	wantWrong(t, "two without parents", api.ErrOrder, 0, two[1], two[0])
	four := sorted(a, a2, a3, bare)
	for i := range four {
		for j := i + 1; j < 4; j++ {
			l := slices.Clone(four)
			l[i], l[j] = l[j], l[i]
			wantWrong(t, "two of four in one another's place", api.ErrOrder, i, l...)
		}
	}
	x := made("x", 2, two[1]) // of whose parents one has a lesser one behind it
	wantWrong(t, "behind one that follows the greater one", api.ErrOrder, 0, two[1], x, two[0])
	wantWrong(t, "behind one that lacks a parent", api.ErrOrder, 0, two[1], c, two[0])
	wantWrong(t, "behind one twice", api.ErrOrder, 0, two[1], two[1], two[0])
	top := above(a, 1)
	wantWrong(t, "one that has a parent", api.ErrOrder, 1, a, top, below(top, 2, a))
}

// P13.2: a lesser one counts from where the last of its parents is ahead, not sooner.
func TestLesserFollows(t *testing.T) {
	low := below(a, 2, a)
	wantBlocks(t, "a lesser one that follows", arkOf(a, low), a, low)
	top := above(a, 1)
	low = such(func(x string) bool { return less(hashOf(x), hashOf(a)) }, 2, a, top)
	wantBlocks(t, "of whom a parent comes later", arkOf(a, top, low), a, top, low)
	high := above(top, 1)
	wantBlocks(t, "ahead of one that was there first", arkOf(a, top, low, high), a, top, low, high)
	wantWrong(t, "behind that one", api.ErrOrder, 2, a, top, high, low)
	low = below(a, 2, gone)
	wantWrong(t, "of whom a parent is nowhere", api.ErrOrder, 1, a, low)
	wantWrong(t, "of whom a parent is nowhere, and another one ahead", api.ErrOrder, 1, a, below(a, 2, a, gone))
	wantWrong(t, "of whom a parent is nowhere, behind a greater one", api.ErrOrder, 2, a, top, low)
}

// P13.2: a lesser one behind counts whatever its clock is; and the greater one whatever its own is.
func TestLesserWithAnyClock(t *testing.T) {
	for _, clock := range []int{2, 3, 7, 4096} {
		for _, lesser := range []int{2, 3, 7, 4096} {
			x := made("x", clock, a)
			wantWrong(t, "a lesser one", api.ErrOrder, 1, a, x, below(x, lesser, a))
			wantWrong(t, "a lesser one without parents", api.ErrOrder, 0, a, x, below(a, 1))
		}
	}
}

// P13.2: with each block the order is told ahead of the clock; of two blocks what is wrong with the first one.
func TestOrderThenClock(t *testing.T) {
	late := made("late", 3, a)
	wantWrong(t, "a clock", api.ErrClock, 1, a, late)
	wantWrong(t, "a clock, and a lesser one behind", api.ErrOrder, 1, a, late, below(late, 2, a))
	wantWrong(t, "a clock, and one behind it that lacks a parent", api.ErrClock, 1, a, late, made("y", 2, gone))
	wantWrong(t, "a clock, and one twice behind it", api.ErrClock, 1, a, late, a)
	wantWrong(t, "a clock, and that block once more", api.ErrClock, 1, a, late, late)
	high := above(late, 2, a)
	wantWrong(t, "a clock, and two in one another's place", api.ErrClock, 1, a, late, above(high, 2, a), high)
	wantWrong(t, "one twice, and a clock behind it", api.ErrOrder, 1, a, a, late)
	wantWrong(t, "two clocks", api.ErrClock, 1, append([]string{a}, sorted2(late, made("later", 4, a))...)...)
	wantWrong(t, "one whose parent has a wrong clock, which it fits", api.ErrClock, 1, a, late, made("y", 4, late))
}

// sorted2 tells two blocks, the one of the lesser hash first.
func sorted2(x, y string) []string {
	if less(hashOf(y), hashOf(x)) {
		x, y = y, x
	}
	return []string{x, y}
}

// P13.2: a clock is one more than the greatest of the parents', whichever of them has it; of one without parents it is the block's own error, at its place there.
func TestClock(t *testing.T) {
	for clock := 2; clock < 9; clock++ {
		l := append(sorted(a, b, c, a2), made("y", clock, a, c, a2)) // it has seen all of them, so it comes last
		if clock == 4 {
			wantBlocks(t, "a clock that fits", arkOf(l...), l...)
		} else {
			wantWrong(t, "a clock that doesn't", api.ErrClock, 4, l...)
		}
	}
	for _, row := range []string{"\x01\x01\x00\x00\x00", "\x01\x01\x02\x00\x00", "\x01\x01\x80\x20\x00\x00"} {
		wantBad(t, "a clock without parents", arkOf(row), api.ErrClock, 12)
		wantBad(t, "a clock without parents, behind others", arkOf(a, a, row), api.ErrClock, begins(a, a, row)[2]+2)
	}
	one := "\x01\x01\x01\x01" + string(make([]byte, 32)) + "\x00"
	wantBad(t, "the clock 1 of one with parents", arkOf(a, one), api.ErrClock, begins(a, one)[1]+2)
}

// eachOrder calls with each order of a list.
func eachOrder(l []string, do func([]string)) {
	if len(l) == 0 {
		do(nil)
	}
	for i, x := range l {
		rest := slices.Delete(slices.Clone(l), i, i+1)
		eachOrder(rest, func(y []string) { do(append([]string{x}, y...)) })
	}
}

// P13.2, P13.5: of all orders in which the blocks of a closed set can stand just the one is taken; the others are told as the words say.
func TestEachOrder(t *testing.T) {
	r := chance()
	for n := range 6 {
		for range 6 {
			l := graph(r, n)
			taken := 0
			eachOrder(l, func(x []string) {
				if wantWords(t, arkOf(x...)) == api.OK {
					taken++
					if !slices.Equal(x, sorted(l...)) {
						t.Fatalf("taken: %s; the one order: %s", show(hashesOf(x)), show(hashesOf(sorted(l...))))
					}
				}
			})
			if taken != 1 {
				t.Fatalf("%d orders of %d blocks are taken", taken, n)
			}
		}
	}
}

// someWrong does something to a list of blocks, by which it may come to be no ark's.
func someWrong(r *rand.Rand, l []string) []string {
	l = slices.Clone(l)
	i, j := r.IntN(len(l)), r.IntN(len(l))
	x := nodeOf(l[i])
	switch r.IntN(7) {
	case 0:
		l[i], l[j] = l[j], l[i]
	case 1:
		return slices.Insert(l, j, l[i])
	case 2:
		return slices.Delete(l, i, i+1)
	case 3: // its children, if it has some, lack it then
		x.Clock = max(2, x.Clock+one(r, -1, 1, 2))
		x.Parents = rising(append(x.Parents, hashOf(l[j])))
		l[i] = blockOf(x)
	case 4:
		x.Clock, x.Parents = 2+r.IntN(4), rising(hashesOf([]string{l[i], l[j]}))
		return append(l, blockOf(x))
	case 5: // the last one has no children
		x = nodeOf(l[len(l)-1])
		if x.Clock > 1 {
			x.Clock += one(r, 1, 2)
			l[len(l)-1] = blockOf(x)
		}
	case 6:
		y := l[i]
		return slices.Insert(slices.Delete(l, i, i+1), r.IntN(len(l)), y)
	}
	return l
}

// P13.2: blocks of many graphs, with one thing or more done to them, against the words.
func TestOrderWords(t *testing.T) {
	r := chance()
	told := map[string]int{}
	for range 1500 {
		l := sorted(graph(r, 2+r.IntN(14))...)
		for range r.IntN(4) {
			l = someWrong(r, l)
			if len(l) == 0 {
				l = []string{a}
			}
		}
		told[fmt.Sprint(wantWords(t, arkOf(l...)))]++
		if r.IntN(5) == 0 {
			told[fmt.Sprint(wantWords(t, arkOf(mixed(r, l)...)))]++
		}
	}
	for _, why := range []api.Errno{api.OK, api.ErrOrder, api.ErrClock} {
		if told[fmt.Sprint(why)] < 100 {
			t.Errorf("%v: only %d times", why, told[fmt.Sprint(why)])
		}
	}
}
