package roots

import (
	"math/bits"

	"pleach/api"
	"pleach/pack"
	"pleach/sha"
)

// What is hashed begins with a byte that no other kind of it begins with: so no leaf can be taken for an inner node, and neither for a root.
const (
	leafMark = iota
	innerMark
	rootMark
)

// hash tells the SHA-256 of a mark and the rows behind it.
func hash(mark byte, rows ...[]byte) api.Hash {
	return sha.OfAll(append([][]byte{{mark}}, rows...)...)
}

// leafOf tells the hash of a cell's leaf.
func leafOf(c api.Cell) api.Hash {
	o := pack.NewOut()
	o.Number(uint64(c.Kind))
	o.Text(c.Key)
	o.Number(uint64(len(c.Value)))
	return hash(leafMark, o.Done(), c.Value) // a row of its own: a long Value isn't laid a second time
}

// innerOf tells the hash of an inner node over two trees.
func innerOf(left, right api.Hash) api.Hash { return hash(innerMark, left[:], right[:]) }

// rootOf tells the root of n cells, with the hash of their tree, if there are any.
func rootOf(n int, tree ...[]byte) api.Hash {
	var number [8]byte
	for i := range number {
		number[i] = byte(n >> (8 * i))
	}
	return hash(rootMark, append([][]byte{number[:]}, tree...)...)
}

// leftOf tells how many cells the left one of two trees has that n cells make, n being above 1.
func leftOf(n int) int { return 1 << (bits.Len(uint(n-1)) - 1) }

// tree tells the hash of the tree of cells, one at least, and the paths of the leaves with these numbers.
func tree(l []api.Cell, numbers ...int) (api.Hash, [][]api.Hash) {
	paths := make([][]api.Hash, len(numbers))
	var down func(from, to int) api.Hash
	down = func(from, to int) api.Hash {
		if to-from == 1 {
			return leafOf(l[from])
		}
		middle := from + leftOf(to-from)
		left, right := down(from, middle), down(middle, to)
		for i, n := range numbers { // behind both trees, so that a path goes from its leaf up
			if from <= n && n < middle {
				paths[i] = append(paths[i], right)
			}
			if middle <= n && n < to {
				paths[i] = append(paths[i], left)
			}
		}
		return innerOf(left, right)
	}
	return down(0, len(l)), paths
}

// climb tells the hash of the tree of n cells, worked out from a leaf up, whose Number is below n; false, if its Path isn't as long as its way.
func climb(x api.Leaf, n int) (api.Hash, bool) {
	var down func(number, n int, path []api.Hash) (api.Hash, bool)
	down = func(number, n int, path []api.Hash) (api.Hash, bool) {
		if n == 1 && len(path) == 0 {
			return leafOf(x.Cell), true
		}
		if n == 1 || len(path) == 0 {
			return api.Hash{}, false
		}
		last, left := len(path)-1, leftOf(n)
		if number < left {
			h, is := down(number, left, path[:last])
			return innerOf(h, path[last]), is
		}
		h, is := down(number-left, n-left, path[:last])
		return innerOf(path[last], h), is
	}
	return down(x.Number, n, x.Path)
}
