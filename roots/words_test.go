package roots_test

import (
	"bytes"
	"crypto/sha256"
	"encoding/binary"
	"encoding/hex"
	"fmt"
	"math/rand/v2"
	"slices"
	"strings"
	"testing"

	"pleach/api"
	"pleach/roots"
)

// What the document's words say of roots and witnesses, told in another way than the package does: the tree is made from the leaves up, row by row, and a path is followed by the bits of its leaf's number.

// h tells the SHA-256 of rows of bytes, by the library.
func h(rows ...[]byte) api.Hash { return sha256.Sum256(slices.Concat(rows...)) }

// unhex tells bytes written in base sixteen.
func unhex(text string) []byte {
	b, err := hex.DecodeString(strings.ReplaceAll(text, " ", ""))
	if err != nil {
		panic(err)
	}
	return b
}

// cell makes a cell.
func cell(kind int, key, value string) api.Cell {
	return api.Cell{Kind: kind, Key: key, Value: []byte(value)}
}

// abc tells the cells a, b, c of the chapter's examples, or some of them.
func abc(names string) []api.Cell {
	l := []api.Cell{}
	for _, x := range []byte(names) {
		l = append(l, api.Cell{Kind: api.CellRegister, Key: string(x), Value: []byte{x - 'a' + 1}})
	}
	return l
}

// leafHash tells the hash of a leaf.
func leafHash(c api.Cell) api.Hash {
	b := binary.AppendUvarint([]byte{0}, uint64(c.Kind))
	b = append(binary.AppendUvarint(b, uint64(len(c.Key))), c.Key...)
	return h(binary.AppendUvarint(b, uint64(len(c.Value))), c.Value)
}

// innerHash tells the hash of an inner node.
func innerHash(left, right api.Hash) api.Hash { return h([]byte{1}, left[:], right[:]) }

// rootHash tells the root of n cells with that tree.
func rootHash(n int, tree api.Hash) api.Hash {
	b := binary.LittleEndian.AppendUint64([]byte{2}, uint64(n))
	if n == 0 {
		return h(b)
	}
	return h(b, tree[:])
}

// rows tells the tree's hashes, row by row from the leaves up: in each row two neighbours make one of the next, and who has none goes up alone.
func rows(l []api.Cell) [][]api.Hash {
	row := []api.Hash{}
	for _, c := range l {
		row = append(row, leafHash(c))
	}
	out := [][]api.Hash{row}
	for len(row) > 1 {
		next := []api.Hash{}
		for pair := range slices.Chunk(row, 2) {
			if len(pair) == 2 {
				pair = []api.Hash{innerHash(pair[0], pair[1])}
			}
			next = append(next, pair[0])
		}
		row = next
		out = append(out, row)
	}
	return out
}

// rootOf tells the root of cells.
func rootOf(l []api.Cell) api.Hash {
	if len(l) == 0 {
		return rootHash(0, api.Hash{})
	}
	all := rows(l)
	return rootHash(len(l), all[len(all)-1][0])
}

// leafOf tells the leaf of a number.
func leafOf(l []api.Cell, number int) api.Leaf {
	x := api.Leaf{Number: number, Cell: l[number]}
	at := number
	for _, row := range rows(l) {
		if beside := at ^ 1; beside < len(row) {
			x.Path = append(x.Path, row[beside])
		}
		at /= 2
	}
	return x
}

// before tells whether a kind and key stand ahead of others.
func before(kind int, key string, otherKind int, otherKey string) bool {
	return kind < otherKind || kind == otherKind && bytes.Compare([]byte(key), []byte(otherKey)) < 0
}

// witnessOf tells the witness of cells for a kind and key, all cells being asked one by one.
func witnessOf(l []api.Cell, kind int, key string) api.Witness {
	w := api.Witness{Cells: len(l)}
	ahead, behind := -1, -1
	for i, c := range l {
		if c.Kind == kind && c.Key == key {
			w.Leaves = []api.Leaf{leafOf(l, i)}
			return w
		}
		if before(c.Kind, c.Key, kind, key) {
			ahead = i
		} else if behind < 0 {
			behind = i
		}
	}
	for _, i := range []int{ahead, behind} {
		if i >= 0 {
			w.Leaves = append(w.Leaves, leafOf(l, i))
		}
	}
	return w
}

// follow tells the hash of the tree of n cells by a leaf's path, and whether the path is of the right length: the bits of the number tell on which side the trees beside the way stand.
func follow(x api.Leaf, n int) (api.Hash, bool) {
	at, last, tree := x.Number, n-1, leafHash(x.Cell)
	for _, p := range x.Path {
		if last == 0 {
			return tree, false
		}
		if at%2 == 1 || at == last {
			tree = innerHash(p, tree)
			for at%2 == 0 && at > 0 {
				at, last = at/2, last/2
			}
		} else {
			tree = innerHash(tree, p)
		}
		at, last = at/2, last/2
	}
	return tree, last == 0
}

// told tells what Check has to answer.
func told(root api.Hash, kind int, key string, w api.Witness) (api.Cell, bool, api.Errno) {
	if kind < 1 || kind > 4 {
		return api.Cell{}, false, api.ErrKind
	}
	no := func() (api.Cell, bool, api.Errno) { return api.Cell{}, false, api.ErrWitness }
	if w.Cells < 0 || (w.Cells == 0) != (len(w.Leaves) == 0) || len(w.Leaves) > 2 {
		return no()
	}
	if w.Cells == 0 && root != rootHash(0, api.Hash{}) {
		return no()
	}
	for _, x := range w.Leaves {
		if x.Number < 0 || x.Number > w.Cells-1 || x.Cell.Kind < 1 || x.Cell.Kind > 4 {
			return no()
		}
		if tree, is := follow(x, w.Cells); !is || rootHash(w.Cells, tree) != root {
			return no()
		}
	}
	switch len(w.Leaves) {
	case 1:
		x := w.Leaves[0]
		ahead, behind := before(x.Cell.Kind, x.Cell.Key, kind, key), before(kind, key, x.Cell.Kind, x.Cell.Key)
		switch {
		case !ahead && !behind:
			return x.Cell, true, api.OK
		case ahead && x.Number != w.Cells-1, behind && x.Number != 0:
			return no()
		}
	case 2:
		a, b := w.Leaves[0], w.Leaves[1]
		if b.Number != a.Number+1 || !before(a.Cell.Kind, a.Cell.Key, kind, key) || !before(kind, key, b.Cell.Kind, b.Cell.Key) {
			return no()
		}
	}
	return api.Cell{}, false, api.OK
}

// sameCell tells whether two cells are the same.
func sameCell(a, b api.Cell) bool {
	return a.Kind == b.Kind && a.Key == b.Key && bytes.Equal(a.Value, b.Value)
}

// sameLeaf tells whether two leaves are the same.
func sameLeaf(a, b api.Leaf) bool {
	return a.Number == b.Number && sameCell(a.Cell, b.Cell) && slices.Equal(a.Path, b.Path)
}

// sameWitness tells whether two witnesses are the same.
func sameWitness(a, b api.Witness) bool {
	return a.Cells == b.Cells && slices.EqualFunc(a.Leaves, b.Leaves, sameLeaf)
}

// copyCells tells cells in memory of their own.
func copyCells(l []api.Cell) []api.Cell {
	out := slices.Clone(l)
	for i := range out {
		out[i].Value = slices.Clone(out[i].Value)
	}
	return out
}

// copyWitness tells a witness in memory of its own.
func copyWitness(w api.Witness) api.Witness {
	w.Leaves = slices.Clone(w.Leaves)
	for i := range w.Leaves {
		w.Leaves[i].Cell.Value = slices.Clone(w.Leaves[i].Cell.Value)
		w.Leaves[i].Path = slices.Clone(w.Leaves[i].Path)
	}
	return w
}

// rootIs fails, if cells have another root.
func rootIs(t *testing.T, what string, l []api.Cell, want api.Hash) {
	t.Helper()
	if got, e := roots.Root(l); e != api.OK || got != want {
		t.Errorf("%s: Root: %v, %x, want %x", what, e, got, want)
	}
}

// findIs fails, if cells have another witness for a kind and key.
func findIs(t *testing.T, what string, l []api.Cell, kind int, key string, want api.Witness) {
	t.Helper()
	if got, e := roots.Find(l, kind, key); e != api.OK || !sameWitness(got, want) {
		t.Errorf("%s: Find(%d, %q): %v, %v, want %v", what, kind, key, e, got, want)
	}
}

// checkIs fails, if Check answers something else of a witness.
func checkIs(t *testing.T, what string, root api.Hash, kind int, key string, w api.Witness, c api.Cell, is bool, e api.Errno) {
	t.Helper()
	gotCell, gotIs, gotE := roots.Check(root, kind, key, w)
	if gotE != e || gotIs != is || !sameCell(gotCell, c) {
		t.Errorf("%s: Check(%d, %q): %v, %v, %v, want %v, %v, %v", what, kind, key, gotCell, gotIs, gotE, c, is, e)
	}
	if !gotIs && gotCell.Value != nil {
		t.Errorf("%s: Check(%d, %q): a Value beside false", what, kind, key)
	}
}

// refused fails, if a witness is taken.
func refused(t *testing.T, what string, root api.Hash, kind int, key string, w api.Witness) {
	t.Helper()
	checkIs(t, what, root, kind, key, w, api.Cell{}, false, api.ErrWitness)
}

// chance tells the same chances in every run.
func chance() *rand.Rand { return rand.New(rand.NewPCG(19, 2)) }

// someText tells a short text, often one of few, and often the beginning of another one.
func someText(r *rand.Rand) string {
	b := []byte{}
	for range r.IntN(4) {
		b = append(b, []byte{0, 'a', 'b', 127, 128, 255}[r.IntN(6)])
	}
	return string(b)
}

// someCells tells at most n cells in order.
func someCells(r *rand.Rand, n int) []api.Cell {
	l := []api.Cell{}
	for range n {
		c := cell(1+r.IntN(4), someText(r), someText(r))
		if r.IntN(20) == 0 {
			c.Value = bytes.Repeat([]byte{byte(r.IntN(256))}, r.IntN(400))
		}
		if at := place(l, c.Kind, c.Key); at == len(l) || l[at].Kind != c.Kind || l[at].Key != c.Key {
			l = slices.Insert(l, at, c)
		}
	}
	return l
}

// place tells how many cells of a list in order stand ahead of a kind and key.
func place(l []api.Cell, kind int, key string) int {
	n := 0
	for n < len(l) && before(l[n].Kind, l[n].Key, kind, key) {
		n++
	}
	return n
}

// rising tells n cells of one kind, with Keys of four digits, by which they stand in order.
func rising(kind, n int) []api.Cell {
	l := []api.Cell{}
	for i := range n {
		l = append(l, cell(kind, fmt.Sprintf("%04d", i), fmt.Sprint(i)))
	}
	return l
}
