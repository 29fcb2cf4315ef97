package roots_test

import (
	"slices"
	"testing"

	"pleach/api"
	"pleach/node"
	"pleach/past"
	"pleach/roots"
	"pleach/shelf"
	"pleach/state"
)

// entry makes the entry of a transaction behind others.
func entry(t *testing.T, author int, parents []api.Entry, ops ...api.Op) api.Entry {
	t.Helper()
	n := api.Node{Author: author, Clock: 1, Ops: ops}
	for _, p := range parents {
		n.Clock = max(n.Clock, p.Node.Clock+1)
		n.Parents = append(n.Parents, p.ID)
	}
	slices.SortFunc(n.Parents, func(a, b api.Hash) int { return slices.Compare(a[:], b[:]) })
	b, e := node.Encode(n)
	x, err := node.Entry(b)
	if e != api.OK || err != nil {
		t.Fatal(e, err)
	}
	return x
}

// history tells entries that show cells of all kinds.
func history(t *testing.T) []api.Entry {
	t.Helper()
	a := entry(t, 1, nil, api.Op{Kind: api.OpPut, Key: "k", Text: "1"}, api.Op{Kind: api.OpAdd, Key: "k", Text: "a"}, api.Op{Kind: api.OpIncr, Key: "n", N: 5})
	b := entry(t, 2, nil, api.Op{Kind: api.OpInsert, Key: "k", Text: "x"}, api.Op{Kind: api.OpInsert, Key: "k", Text: "y", At: api.Ident{Op: 1}}, api.Op{Kind: api.OpPut, Key: "", Text: ""})
	c := entry(t, 1, []api.Entry{a, b}, api.Op{Kind: api.OpAdd, Key: "s", Text: "b"}, api.Op{Kind: api.OpIncr, Key: "k", N: -7}, api.Op{Kind: api.OpPut, Key: "kk", Text: "2"})
	return []api.Entry{a, b, c}
}

// cellsOf tells the cells that entries show.
func cellsOf(t *testing.T, l []api.Entry) []api.Cell {
	t.Helper()
	p, e, at := past.Of(l)
	if e != api.OK {
		t.Fatal(e, at)
	}
	return state.Of(p).Cells()
}

// W9, P19.4: the cells that a history shows are a list that may be; each of them is witnessed, and so is each place at which nothing stands.
func TestShownCells(t *testing.T) {
	l := cellsOf(t, history(t))
	if len(l) != 8 {
		t.Fatalf("%d cells", len(l))
	}
	root := rootOf(l)
	rootIs(t, "shown", l, root)
	for _, x := range places(l) {
		w, e := roots.Find(l, x.kind, x.key)
		if e != api.OK {
			t.Fatal(e)
		}
		at := slices.IndexFunc(l, func(c api.Cell) bool { return c.Kind == x.kind && c.Key == x.key })
		if at < 0 {
			checkIs(t, "shown", root, x.kind, x.key, w, api.Cell{}, false, api.OK)
			continue
		}
		checkIs(t, "shown", root, x.kind, x.key, w, l[at], true, api.OK)
		c, _, _ := roots.Check(root, x.kind, x.key, w)
		if _, _, _, err := state.Read(c); err != nil {
			t.Errorf("(%d, %q): %v", x.kind, x.key, err)
		}
	}
}

// W3: who holds the same has the same root, in whatever order it came; who holds less has another one, with which what came later isn't taken.
func TestSameHistorySameRoot(t *testing.T) {
	l := history(t)
	root := rootOf(cellsOf(t, l))
	for _, order := range [][]int{{0, 1, 2}, {2, 1, 0}, {1, 2, 0}} {
		s := shelf.New(nil)
		for _, i := range order {
			b, _ := node.Encode(l[i].Node)
			if _, err := s.Take(b); err != nil {
				t.Fatal(err)
			}
		}
		rootIs(t, "through a shelf", state.Of(s.Past()).Cells(), root)
	}
	earlier := cellsOf(t, l[:2])
	w, _ := roots.Find(cellsOf(t, l), api.CellSet, "s")
	refused(t, "earlier", rootOf(earlier), api.CellSet, "s", w)
	w, _ = roots.Find(earlier, api.CellSet, "s")
	checkIs(t, "earlier", rootOf(earlier), api.CellSet, "s", w, api.Cell{}, false, api.OK)
	refused(t, "later", root, api.CellSet, "s", w)
}
