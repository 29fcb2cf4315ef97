package roots_test

import (
	"math"
	"slices"
	"testing"

	"pleach/api"
	"pleach/roots"
)

// turns tells ways to spoil a witness with a leaf; each tells false, if it can't be done to this one.
func turns() map[string]func(w *api.Witness) bool {
	out := map[string]func(w *api.Witness) bool{
		"Cells above 0 without Leaves": func(w *api.Witness) bool { w.Leaves = nil; return true },
		"Cells 0 with Leaves":          func(w *api.Witness) bool { w.Cells = 0; return true },
		"Cells turned":                 func(w *api.Witness) bool { w.Cells = -w.Cells; return true },
		"each leaf twice": func(w *api.Witness) bool {
			w.Leaves = slices.Concat(w.Leaves, w.Leaves)
			return true
		},
		"three Leaves": func(w *api.Witness) bool {
			last := w.Leaves[len(w.Leaves)-1]
			w.Leaves = append(w.Leaves, last, last)[:3]
			return true
		},
		"Leaves turned round": func(w *api.Witness) bool { slices.Reverse(w.Leaves); return len(w.Leaves) > 1 },
	}
	for _, n := range []int{-1, math.MinInt, math.MaxInt, math.MaxInt - 1, 1 << 62, 1 << 32, 1<<32 + 5} {
		out["Cells "+name(n)] = func(w *api.Witness) bool { w.Cells = n; return true }
	}
	for _, n := range []int{-8, -4, -2, -1, 1, 2, 3, 4, 8} {
		out["Cells more by "+name(n)] = func(w *api.Witness) bool { w.Cells += n; return true }
	}
	for i := range 2 {
		for what, turn := range leafTurns() {
			out["leaf "+name(i)+": "+what] = func(w *api.Witness) bool { return i < len(w.Leaves) && turn(&w.Leaves[i]) }
		}
		out["without leaf "+name(i)] = func(w *api.Witness) bool {
			if len(w.Leaves) < 2 {
				return false
			}
			w.Leaves = slices.Delete(w.Leaves, i, i+1)
			return true
		}
	}
	return out
}

// leafTurns tells ways to spoil a leaf.
func leafTurns() map[string]func(x *api.Leaf) bool {
	out := map[string]func(x *api.Leaf) bool{
		"a Path too long":            func(x *api.Leaf) bool { x.Path = append(x.Path, api.Hash{}); return true },
		"a Path too long in front":   func(x *api.Leaf) bool { x.Path = slices.Insert(x.Path, 0, api.Hash{9}); return true },
		"a Path much too long":       func(x *api.Leaf) bool { x.Path = append(x.Path, make([]api.Hash, 5000)...); return true },
		"no Path":                    func(x *api.Leaf) bool { had := len(x.Path) > 0; x.Path = nil; return had },
		"a Path too short":           func(x *api.Leaf) bool { return cut(x, len(x.Path)-1) },
		"a Path too short in front":  func(x *api.Leaf) bool { return cut(x, 0) },
		"a Path turned round":        func(x *api.Leaf) bool { slices.Reverse(x.Path); return len(x.Path) > 1 },
		"the Value longer":           func(x *api.Leaf) bool { x.Cell.Value = append(x.Cell.Value, 0); return true },
		"no Value":                   func(x *api.Leaf) bool { had := len(x.Cell.Value) > 0; x.Cell.Value = nil; return had },
		"a byte of the Value turned": func(x *api.Leaf) bool { return flip(x.Cell.Value, 0) },
		"the last byte of the Value": func(x *api.Leaf) bool { return flip(x.Cell.Value, len(x.Cell.Value)-1) },
		"the Key longer":             func(x *api.Leaf) bool { x.Cell.Key += "\x00"; return true },
		"another Key":                func(x *api.Leaf) bool { x.Cell.Key = "?" + x.Cell.Key; return true },
		"the leaf of nothing":        func(x *api.Leaf) bool { *x = api.Leaf{Number: x.Number, Path: x.Path}; return true },
	}
	for _, n := range []int{-1, 1, 2, 3, -2} {
		out["Number more by "+name(n)] = func(x *api.Leaf) bool { x.Number += n; return true }
		out["Kind more by "+name(n)] = func(x *api.Leaf) bool { x.Cell.Kind += n; return true }
	}
	for _, n := range []int{-1, math.MinInt, math.MaxInt, 1 << 32, 1 << 62} {
		out["Number "+name(n)] = func(x *api.Leaf) bool { x.Number = n; return true }
		out["Kind "+name(n)] = func(x *api.Leaf) bool { x.Cell.Kind = n; return true }
	}
	for at := range 4 {
		out["hash "+name(at)+" of the Path turned"] = func(x *api.Leaf) bool {
			if at >= len(x.Path) {
				return false
			}
			x.Path[at][31-at] ^= 1
			return true
		}
	}
	return out
}

// cut takes a hash out of a path.
func cut(x *api.Leaf, at int) bool {
	if at < 0 || at >= len(x.Path) {
		return false
	}
	x.Path = slices.Delete(x.Path, at, at+1)
	return true
}

// flip turns a bit of a byte, if there is that byte.
func flip(b []byte, at int) bool {
	if at < 0 || at >= len(b) {
		return false
	}
	b[at] ^= 1
	return true
}

// P19.3, P19.6: whatever is turned in a witness, it is taken no more.
func TestSpoiltWitnesses(t *testing.T) {
	for n := 1; n <= 9; n++ {
		l := rising(2, n)
		root := rootOf(l)
		for at := range 2*n + 1 {
			key := "0"
			if at > 0 {
				key = l[(at-1)/2].Key + []string{"", "x"}[(at-1)%2]
			}
			for what, turn := range turns() {
				w := copyWitness(witnessOf(l, 2, key))
				if turn(&w) {
					refused(t, what, root, 2, key, w)
				}
			}
		}
	}
}

// P19.3: with another root nothing is taken, whichever byte of it is turned.
func TestOtherRoots(t *testing.T) {
	for n := range 6 {
		l := rising(1, n)
		for i := range 32 {
			root := rootOf(l)
			root[i] ^= 0x80
			for _, key := range []string{"", "0000", "0001", "0001x", "0004", "9"} {
				refused(t, "a byte of the root turned", root, 1, key, witnessOf(l, 1, key))
			}
		}
		refused(t, "the zero root", api.Hash{}, 1, "0000", witnessOf(l, 1, "0000"))
		if n > 0 {
			tree := rows(l)
			refused(t, "the tree's hash as the root", tree[len(tree)-1][0], 1, "0000", witnessOf(l, 1, "0000"))
			refused(t, "no Leaves", rootOf(l), 1, "0000", api.Witness{})
			refused(t, "a witness of none, of a list", rootOf(nil), 1, "0000", witnessOf(l, 1, "0000"))
		}
	}
}

// P19.3: of no cells there are no Leaves, and Cells is 0.
func TestNoCells(t *testing.T) {
	root := rootOf(nil)
	for _, n := range []int{-1, 1, 2, math.MinInt, math.MaxInt} {
		refused(t, "Cells without Leaves", root, 1, "a", api.Witness{Cells: n})
		refused(t, "Cells without Leaves", rootHash(n, api.Hash{}), 1, "a", api.Witness{Cells: n})
		refused(t, "Cells without Leaves", h(rootBytes(n)), 1, "a", api.Witness{Cells: n})
	}
	for _, x := range []api.Leaf{{}, {Cell: cell(1, "a", "")}, {Number: -1, Cell: cell(1, "a", "")}} {
		refused(t, "Cells 0 with a leaf", root, 1, "a", api.Witness{Leaves: []api.Leaf{x}})
		refused(t, "Cells 0 with two", root, 1, "a", api.Witness{Leaves: []api.Leaf{x, x}})
	}
}

// rootBytes tells the bytes of a root of n cells without a tree.
func rootBytes(n int) []byte {
	b := []byte{2}
	for i := range 8 {
		b = append(b, byte(uint64(n)>>(8*i)))
	}
	return b
}

// P19.3, P19.5, P19.6: of all that can be made of the right leaves of a list, one of them, or two in whatever order, or three, just Find's witness is taken for each place.
func TestOtherWitnesses(t *testing.T) {
	for n := 1; n <= 6; n++ {
		l := rising(3, n)
		root := rootOf(l)
		for at := range 2*n + 1 {
			key := "0"
			if at > 0 {
				key = l[(at-1)/2].Key + []string{"", "x"}[(at-1)%2]
			}
			want := witnessOf(l, 3, key)
			taken := 0
			for _, some := range choices(n) {
				w := api.Witness{Cells: n}
				for _, i := range some {
					w.Leaves = append(w.Leaves, leafOf(l, i))
				}
				c, is, e := roots.Check(root, 3, key, w)
				if (e == api.OK) != sameWitness(w, want) {
					t.Errorf("%d cells, %q, leaves %v: %v, %v, %v", n, key, some, c, is, e)
				}
				if e == api.OK {
					taken++
				}
			}
			if taken != 1 {
				t.Errorf("%d cells, %q: %d witnesses are taken", n, key, taken)
			}
		}
	}
}

// choices tells all rows of at most three numbers below n.
func choices(n int) [][]int {
	out := [][]int{{}}
	for from := 0; from < len(out); from++ {
		if len(out[from]) < 3 {
			for i := range n {
				out = append(out, append(slices.Clone(out[from]), i))
			}
		}
	}
	return out
}

// P19.3: one leaf ahead that isn't the last, or behind that isn't the first, tells nothing; nor do two with a cell between them.
func TestGaps(t *testing.T) {
	l := abc("abcde")
	root := rootOf(l)
	for i := range l {
		w := api.Witness{Cells: 5, Leaves: []api.Leaf{leafOf(l, i)}}
		if i < 4 {
			refused(t, "one ahead, not the last", root, 1, "z", w)
			refused(t, "one ahead, not the last", root, 4, "", w)
		}
		if i > 0 {
			refused(t, "one behind, not the first", root, 1, "", w)
		}
		for k := range l {
			two := api.Witness{Cells: 5, Leaves: []api.Leaf{leafOf(l, i), leafOf(l, k)}}
			if i+1 != k {
				refused(t, "no neighbours", root, 1, "bb", two)
			}
			refused(t, "the first is that of the key", root, 1, l[i].Key, two)
			refused(t, "the second is that of the key", root, 1, l[k].Key, two)
			refused(t, "both ahead", root, 2, "", two)
			refused(t, "both behind", root, 1, "", two)
		}
	}
}

// P19.3: a witness tells of its own cell alone, not of the same Key in another Kind, nor of a Key that is a beginning of it.
func TestOtherPlaces(t *testing.T) {
	l := []api.Cell{cell(1, "k", "1"), cell(2, "k", "2"), cell(3, "k", "3"), cell(4, "k", "4")}
	root := rootOf(l)
	for kind := 1; kind <= 4; kind++ {
		for other := 1; other <= 4; other++ {
			w := witnessOf(l, other, "k")
			if kind == other {
				checkIs(t, "its own", root, kind, "k", w, l[kind-1], true, api.OK)
			} else if kind < other && other > 1 || kind > other && other < 4 {
				refused(t, "another Kind", root, kind, "k", w)
			}
		}
	}
	for other := 2; other <= 3; other++ {
		refused(t, "a beginning", root, other, "", witnessOf(l, other, "k"))
		refused(t, "what goes on", root, other, "kk", witnessOf(l, other, "k"))
	}
}

// P19.3: a leaf that can't be, for its Kind, isn't taken, even if its hash fits.
func TestLeafKinds(t *testing.T) {
	for _, kind := range wrongKinds() {
		c := cell(kind, "a", "v")
		w := api.Witness{Cells: 1, Leaves: []api.Leaf{{Cell: c}}}
		for want := 1; want <= 4; want++ {
			refused(t, "a leaf of a Kind that is none", rootOf([]api.Cell{c}), want, "a", w)
		}
		two := []api.Cell{cell(1, "a", ""), c}
		w = api.Witness{Cells: 2, Leaves: []api.Leaf{leafOf(two, 0), leafOf(two, 1)}}
		refused(t, "the second of two", rootOf(two), 1, "b", w)
		slices.Reverse(two)
		w = api.Witness{Cells: 2, Leaves: []api.Leaf{leafOf(two, 0), leafOf(two, 1)}}
		refused(t, "the first of two", rootOf(two), 1, "", w)
	}
}

// P19.3: with both leaves their own paths are followed: if either one leads elsewhere, nothing is taken.
func TestBothPaths(t *testing.T) {
	l, other := abc("abcd"), abc("abcd")
	other[0].Value, other[3].Value = []byte("other"), []byte("other")
	for _, pair := range [][2][]api.Cell{{l, other}, {other, l}} {
		w := api.Witness{Cells: 4, Leaves: []api.Leaf{leafOf(pair[0], 1), leafOf(pair[1], 2)}}
		refused(t, "paths of two lists", rootOf(l), 1, "bb", w)
		refused(t, "paths of two lists", rootOf(other), 1, "bb", w)
	}
	checkIs(t, "the same list", rootOf(l), 1, "bb", witnessOf(l, 1, "bb"), api.Cell{}, false, api.OK)
}

// P19.3, P19.5: an inner node can't be taken for a leaf, nor a leaf for an inner node, nor a tree for a greater or lesser one.
func TestOtherTrees(t *testing.T) {
	l := abc("abcd")
	all := rows(l)
	short := api.Witness{Cells: 2, Leaves: []api.Leaf{{Number: 0, Cell: l[0], Path: all[1][1:]}}}
	refused(t, "a way cut short", rootOf(l), 1, "a", short)
	left, right := all[1][0], all[1][1]
	node := api.Cell{Kind: 1, Key: "k", Value: slices.Concat(left[:], right[:])}
	refused(t, "an inner node as a leaf", rootOf(l), 1, "k", api.Witness{Cells: 1, Leaves: []api.Leaf{{Cell: node}}})
	for n := 1; n <= 9; n++ {
		for other := 1; other <= 9; other++ {
			if n == other {
				continue
			}
			for i := range n {
				for number := range other {
					x := leafOf(rising(1, n), i)
					x.Number = number
					w := api.Witness{Cells: other, Leaves: []api.Leaf{x}}
					refused(t, "Cells of another list", rootOf(rising(1, n)), 1, x.Cell.Key, w)
				}
			}
		}
	}
}

// folds tells all hashes that a hash and a path can come to, whichever side each hash of the path stands on.
func folds(first api.Hash, path []api.Hash) []api.Hash {
	out := []api.Hash{first}
	for _, p := range path {
		next := []api.Hash{}
		for _, tree := range out {
			next = append(next, innerHash(tree, p), innerHash(p, tree))
		}
		out = next
	}
	return out
}

// P19.3: a Path that is too short or too long, or whose hashes stand on other sides, isn't taken, even if the root is made to fit it.
func TestMadeRoots(t *testing.T) {
	for n := 1; n <= 9; n++ {
		for number := range n {
			for length := range 6 {
				x := api.Leaf{Number: number, Cell: cell(2, "k", "v"), Path: somePath(length)}
				w := api.Witness{Cells: n, Leaves: []api.Leaf{x}}
				taken := 0
				for _, tree := range folds(api.Hash{}, x.Path) {
					refused(t, "without the leaf", rootHash(n, tree), 2, "k", w)
				}
				for _, tree := range folds(leafHash(x.Cell), x.Path) {
					if agree(t, "made", rootHash(n, tree), 2, "k", w) == api.OK {
						taken++
					}
				}
				if (taken == 1) != (length == sides(number, n)) || taken > 1 {
					t.Errorf("number %d of %d, a path of %d: %d roots", number, n, length, taken)
				}
			}
		}
	}
}
