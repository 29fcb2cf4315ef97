package roots_test

import (
	"math"
	"slices"
	"strconv"
	"testing"

	"pleach/api"
	"pleach/roots"
)

// name tells a number as a text.
func name(n int) string { return strconv.Itoa(n) }

// sides tells how many trees stand beside the way of a number in a tree of n cells: the tree is gone down in numbers alone.
func sides(number, n int) int {
	count := 0
	for n > 1 {
		left := 1
		for left < n-left { // left*2 < n, in numbers that fit
			left *= 2
		}
		if number < left {
			n = left
		} else {
			number, n = number-left, n-left
		}
		count++
	}
	return count
}

// greatNumbers tells numbers of cells up to the greatest.
func greatNumbers() []int {
	return []int{1, 2, 3, 5, 1 << 16, 1<<31 - 1, 1 << 31, 1<<31 + 1, 1 << 32, 1<<32 + 1, 1<<53 + 1, 1<<62 - 1, 1 << 62, 1<<62 + 1, 1<<62 + 2, math.MaxInt - 1, math.MaxInt}
}

// numbersOf tells numbers of leaves, at the ends and in the middle of a tree of n cells.
func numbersOf(n int) []int {
	l := []int{}
	for _, i := range []int{0, 1, 2, n / 3, n/2 - 1, n / 2, n/2 + 1, 1<<62 - 1, 1 << 62, n - 3, n - 2, n - 1} {
		if 0 <= i && i < n {
			l = append(l, i)
		}
	}
	return l
}

// somePath tells a path of n hashes, each another one.
func somePath(n int) []api.Hash {
	l := []api.Hash{}
	for i := range n {
		l = append(l, api.Hash{byte(i), 7})
	}
	return l
}

// P19.3, R1: of trees of any number of cells, as great as an int may be, a path of the right length is followed, and no other.
func TestGreatTrees(t *testing.T) {
	for _, n := range greatNumbers() {
		for _, number := range numbersOf(n) {
			x := api.Leaf{Number: number, Cell: cell(2, "k", "v"), Path: somePath(sides(number, n))}
			tree, is := follow(x, n)
			if !is {
				t.Fatalf("number %d of %d: the words don't agree", number, n)
			}
			root := rootHash(n, tree)
			w := api.Witness{Cells: n, Leaves: []api.Leaf{x}}
			checkIs(t, "a great tree", root, 2, "k", w, x.Cell, true, api.OK)
			checkEnds(t, root, w)
			for _, length := range []int{0, len(x.Path) - 1, len(x.Path) + 1, 62, 63, 64, 65, 1000} {
				if 0 <= length && length != len(x.Path) {
					w.Leaves[0].Path = somePath(length)
					refused(t, "a path of another length", root, 2, "k", w)
				}
			}
		}
	}
}

// checkEnds fails, if one leaf tells of what stands beyond it, though it isn't at that end, or doesn't, though it is.
func checkEnds(t *testing.T, root api.Hash, w api.Witness) {
	t.Helper()
	if w.Leaves[0].Number == 0 {
		checkIs(t, "ahead of all", root, 1, "z", w, api.Cell{}, false, api.OK)
	} else {
		refused(t, "ahead of it", root, 1, "z", w)
	}
	if w.Leaves[0].Number == w.Cells-1 {
		checkIs(t, "behind all", root, 3, "a", w, api.Cell{}, false, api.OK)
	} else {
		refused(t, "behind it", root, 3, "a", w)
	}
}

// P19.3, R1: Numbers, Cells and Kinds as great and as low as an int may be, all together.
func TestGreatNumbers(t *testing.T) {
	numbers := []int{math.MinInt, math.MinInt + 1, -1, 0, 1, 2, math.MaxInt - 1, math.MaxInt}
	root := rootOf(abc("ab"))
	for _, cells := range numbers {
		for _, number := range numbers {
			for _, length := range []int{0, 1, 2, 62, 63, 64} {
				x := api.Leaf{Number: number, Cell: cell(1, "a", ""), Path: somePath(length)}
				y := api.Leaf{Number: number + 1, Cell: cell(1, "c", ""), Path: somePath(length)}
				for _, key := range []string{"", "a", "b", "c", "d"} {
					refused(t, "one", root, 1, key, api.Witness{Cells: cells, Leaves: []api.Leaf{x}})
					refused(t, "two", root, 1, key, api.Witness{Cells: cells, Leaves: []api.Leaf{x, y}})
					refused(t, "two", root, 1, key, api.Witness{Cells: cells, Leaves: []api.Leaf{y, x}})
				}
			}
		}
	}
}

// P19.3, R1: paths and lists of leaves that are much too long.
func TestManyLeaves(t *testing.T) {
	l := abc("abc")
	w := witnessOf(l, 1, "b")
	x := w.Leaves[0]
	w.Leaves = slices.Repeat(w.Leaves, 1<<18)
	refused(t, "many leaves", rootOf(l), 1, "b", w)
	x.Path = append(x.Path, make([]api.Hash, 1<<18)...)
	refused(t, "many hashes", rootOf(l), 1, "b", api.Witness{Cells: 3, Leaves: []api.Leaf{x}})
	refused(t, "many hashes, of a great tree", rootOf(l), 1, "b", api.Witness{Cells: math.MaxInt, Leaves: []api.Leaf{x}})
}

// P19.1 to P19.4: a Value of many megabytes.
func TestLongValue(t *testing.T) {
	l := abc("abc")
	l[1].Value = make([]byte, 1<<23+1)
	l[1].Value[1<<22] = 9
	root := rootOf(l)
	rootIs(t, "long", l, root)
	w, e := roots.Find(l, 1, "b")
	c, is, f := roots.Check(root, 1, "b", w)
	if e != api.OK || f != api.OK || !is || !sameCell(c, l[1]) {
		t.Errorf("long: %v, %v, %v", e, is, f)
	}
	w.Leaves[0].Cell.Value[1<<23] ^= 1
	if _, is, e := roots.Check(root, 1, "b", w); is || e != api.ErrWitness {
		t.Errorf("its last byte turned: %v, %v", is, e)
	}
}
