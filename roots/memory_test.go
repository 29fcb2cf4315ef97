package roots_test

import (
	"slices"
	"sync"
	"testing"

	"pleach/api"
	"pleach/roots"
)

// fill fills a list, its spare room too, with what nobody told.
func fill[T any](l []T, x T) {
	l = l[:cap(l)]
	for i := range l {
		l[i] = x
	}
}

// fillWitness fills all lists of a witness.
func fillWitness(w api.Witness) {
	for _, x := range w.Leaves {
		fill(x.Cell.Value, 0xee)
		fill(x.Path, api.Hash{0xee})
	}
	fill(w.Leaves, api.Leaf{Number: 77, Cell: cell(9, "filled", "filled")})
}

// roomy tells cells with spare room behind the list and behind each Value, all of it full of bytes.
func roomy(l []api.Cell) []api.Cell {
	out := append(copyCells(l), cell(3, "spare", "room"), cell(0, "", ""))[:len(l)]
	for i := range out {
		n := len(out[i].Value)
		out[i].Value = append(out[i].Value, "spare room"...)[:n]
	}
	return out
}

// whole tells all that stands in the memory of cells, spare room too.
func whole(l []api.Cell) []api.Cell {
	out := slices.Clone(l[:cap(l)])
	for i := range out {
		out[i].Value = slices.Clone(out[i].Value[:cap(out[i].Value)])
	}
	return out
}

// places tells kinds and keys around some cells.
func places(l []api.Cell) []asked {
	out := []asked{{1, ""}, {4, "\xff\xff"}}
	for _, c := range l {
		out = append(out, asked{c.Kind, c.Key}, asked{c.Kind, c.Key + "\x00"})
	}
	return out
}

// P19.7: Root and Find change nothing of what they are handed, spare room included, and keep nothing of it.
func TestListsStay(t *testing.T) {
	for n := range 8 {
		plain := rising(2, n)
		l := roomy(plain)
		want := whole(l)
		rootIs(t, "roomy", l, rootOf(plain))
		witnesses := []api.Witness{}
		for _, x := range places(plain) {
			w, e := roots.Find(l, x.kind, x.key)
			if e != api.OK {
				t.Fatal(e)
			}
			witnesses = append(witnesses, w)
		}
		if !slices.EqualFunc(whole(l), want, sameCell) {
			t.Fatalf("%d cells: what was handed in has changed", n)
		}
		for i := range l {
			fill(l[i].Value, 0xee)
		}
		fill(l, cell(1, "filled", "filled"))
		for i, x := range places(plain) {
			if !sameWitness(witnesses[i], witnessOf(plain, x.kind, x.key)) {
				t.Errorf("%d cells, (%d, %q): the witness has changed", n, x.kind, x.key)
			}
		}
	}
}

// P19.7: a witness is new memory: filling it changes neither the cells nor another witness.
func TestFindMemory(t *testing.T) {
	for n := range 8 {
		plain := rising(3, n)
		l := roomy(plain)
		want := whole(l)
		for _, x := range places(plain) {
			kept, _ := roots.Find(l, x.kind, x.key)
			other, _ := roots.Find(l, x.kind, x.key)
			fillWitness(other)
			if !slices.EqualFunc(whole(l), want, sameCell) || !sameWitness(kept, witnessOf(plain, x.kind, x.key)) {
				t.Fatalf("%d cells, (%d, %q): a witness shares memory", n, x.kind, x.key)
			}
			findIs(t, "again", l, x.kind, x.key, kept)
		}
	}
}

// P19.7: no two lists of one witness share memory, spare room included.
func TestListsApart(t *testing.T) {
	for n := 2; n <= 9; n++ {
		l := rising(1, n)
		for at := 1; at < n; at++ {
			key := l[at-1].Key + "x"
			want := witnessOf(l, 1, key)
			for i := range 4 {
				w, _ := roots.Find(l, 1, key)
				if i < 2 {
					fill(w.Leaves[i].Cell.Value, 0xee)
					w.Leaves[i].Cell.Value = want.Leaves[i].Cell.Value
				} else {
					fill(w.Leaves[i-2].Path, api.Hash{0xee})
					w.Leaves[i-2].Path = want.Leaves[i-2].Path
				}
				if !sameWitness(w, want) {
					t.Errorf("%d cells, %q: list %d shares memory", n, key, i)
				}
			}
		}
	}
}

// P19.7: what is appended to a list of a witness stands in no other one.
func TestAppended(t *testing.T) {
	l := roomy(rising(1, 5))
	a, _ := roots.Find(l, 1, "0002x")
	b, _ := roots.Find(l, 1, "0002x")
	for i := range 2 {
		x, y := append(a.Leaves[i].Cell.Value, 'x'), append(b.Leaves[i].Cell.Value, 'y')
		p, q := append(a.Leaves[i].Path, api.Hash{1}), append(b.Leaves[i].Path, api.Hash{2})
		if x[1] != 'x' || y[1] != 'y' || p[len(p)-1] != (api.Hash{1}) || q[len(q)-1] != (api.Hash{2}) {
			t.Errorf("leaf %d: %q %q", i, x, y)
		}
	}
	if want := whole(roomy(rising(1, 5))); !slices.EqualFunc(whole(l), want, sameCell) {
		t.Error("what was appended stands in the cells")
	}
}

// roomyWitness tells a witness with spare room behind each list.
func roomyWitness(w api.Witness) api.Witness {
	w = copyWitness(w)
	n := len(w.Leaves)
	w.Leaves = append(w.Leaves, api.Leaf{Number: 5, Cell: cell(2, "spare", "room")})[:n]
	for i := range w.Leaves {
		x := &w.Leaves[i]
		values, paths := len(x.Cell.Value), len(x.Path)
		x.Cell.Value = append(x.Cell.Value, "spare room"...)[:values]
		x.Path = append(x.Path, api.Hash{5}, api.Hash{6})[:paths]
	}
	return w
}

// wholeWitness tells all that stands in the memory of a witness, spare room too.
func wholeWitness(w api.Witness) api.Witness {
	w.Leaves = slices.Clone(w.Leaves[:cap(w.Leaves)])
	for i := range w.Leaves {
		x := &w.Leaves[i]
		x.Cell.Value = slices.Clone(x.Cell.Value[:cap(x.Cell.Value)])
		x.Path = slices.Clone(x.Path[:cap(x.Path)])
	}
	return w
}

// P19.7: Check changes nothing of a witness, spare room included, and what it tells is new memory.
func TestCheckMemory(t *testing.T) {
	for n := range 8 {
		l := rising(4, n)
		root := rootOf(l)
		for _, x := range places(l) {
			w := roomyWitness(witnessOf(l, x.kind, x.key))
			want := wholeWitness(w)
			kept, _, e := roots.Check(root, x.kind, x.key, w)
			other, is, _ := roots.Check(root, x.kind, x.key, w)
			fill(other.Value, 0xee)
			roots.Check(api.Hash{}, x.kind, x.key, w)
			if e != api.OK || !sameWitness(wholeWitness(w), want) {
				t.Fatalf("%d cells, (%d, %q): %v, the witness has changed", n, x.kind, x.key, e)
			}
			fillWitness(w)
			if is && !sameCell(kept, l[place(l, x.kind, x.key)]) {
				t.Errorf("%d cells, (%d, %q): what was told has changed: %v", n, x.kind, x.key, kept)
			}
		}
	}
}

// R4: many calls at one time, of the same cells and witnesses, answer what one does.
func TestAtOneTime(t *testing.T) {
	l := rising(2, 33)
	root := rootOf(l)
	var group sync.WaitGroup
	for range 8 {
		group.Go(func() {
			for _, x := range places(l) {
				rootIs(t, "at one time", l, root)
				w := witnessOf(l, x.kind, x.key)
				findIs(t, "at one time", l, x.kind, x.key, w)
				agree(t, "at one time", root, x.kind, x.key, w)
			}
		})
	}
	group.Wait()
}
