package state_test

import (
	"fmt"
	"slices"
	"sync"
	"testing"

	"pleach/api"
	"pleach/node"
	"pleach/past"
	"pleach/state"
)

// fill fills a list, its spare room too, with what nobody told.
func fill[T any](l []T, x T) {
	l = l[:cap(l)]
	for i := range l {
		l[i] = x
	}
}

// fillCells fills the Values of cells, then the list.
func fillCells(l []api.Cell) {
	for _, c := range l {
		fill(c.Value, 0xee)
	}
	fill(l, api.Cell{Kind: 1, Key: "filled", Value: []byte{0xee}})
}

// busy tells entries with several cells of each kind, and keys in no order.
func busy() []api.Entry {
	return entries(
		tx('c', "", put("k", "1"), add("k", "b"), add("k", "a"), incr("k", 5), ins("k", "x"), ins("k", "y", self(5)), put("gone", "x"), add("l", "z")),
		tx('b', "c", put("k", "2"), add("s", "c"), incr("n", -1), ins("k", "p", id('c', 5)), reset("gone"), ins("l", "r")),
		tx('a', "c", put("k", "3"), remove("k", "b"), add("k", "d"), incr("k", 2), ins("k", "q", id('c', 5)), put("", "m")),
	)
}

// busyTales tells what busy shows.
func busyTales() map[string]tale {
	return map[string]tale{
		"":  {register: []string{"m"}},
		"k": {register: []string{"3", "2"}, set: []string{"a", "d"}, count: 7, list: []api.Item{{ID: id('c', 5), Text: "x"}, {ID: id('b', 4), Text: "p"}, {ID: id('a', 5), Text: "q"}, {ID: id('c', 6), Text: "y"}}},
		"l": {set: []string{"z"}, list: []api.Item{{ID: id('b', 6), Text: "r"}}},
		"n": {count: -1},
		"s": {set: []string{"c"}},
	}
}

// wantBusy fails, if a state shows something else than busy does.
func wantBusy(t *testing.T, what string, s *state.State) {
	t.Helper()
	wantShown(t, what, s, busyTales())
	wantCells(t, what+": no changes", state.Changes(s, s))
	wantCells(t, what+": all", state.Changes(of(t), s), cellsOf(busyTales())...)
}

// P18.5: each list that is answered, and each Value in it, is new memory, its spare room too: filling it changes neither another answer nor the state.
func TestAnswersMemory(t *testing.T) {
	s, none, want := state.Of(pastOf(t, busy())), of(t), cellsOf(busyTales())
	cells := map[string]func() []api.Cell{
		"Cells":           s.Cells,
		"Changes":         func() []api.Cell { return state.Changes(none, s) },
		"Changes, a part": func() []api.Cell { return state.Changes(of(t, tx('a', "", put("", "x"))), s) },
		"Changes, gone":   func() []api.Cell { return state.Changes(s, none) },
		"Cell": func() []api.Cell {
			c, _ := s.Cell(api.CellList, "k")
			return []api.Cell{c}
		},
	}
	for range 2 {
		for what, call := range cells {
			kept, other := call(), call()
			again := slices.Clone(kept)
			for i := range again {
				again[i].Value = slices.Clone(kept[i].Value)
			}
			fillCells(other)
			wantCells(t, what+": another answer", kept, again...)
			wantBusy(t, what, s)
		}
		fill(s.Register("k"), "filled")
		fill(s.Members("k"), "filled")
		fill(s.Items("k"), api.Item{Text: "filled"})
		for _, kind := range kinds() {
			fill(s.Keys(kind), "filled")
		}
		wantBusy(t, "lists", s)
	}
	wantCells(t, "nothing more", s.Cells(), want...)
}

// P18.5: no two Values of one answer share memory, spare room included.
func TestValuesApart(t *testing.T) {
	s, none := state.Of(pastOf(t, busy())), of(t)
	want := cellsOf(busyTales())
	for i := range want {
		for what, l := range map[string][]api.Cell{"Cells": s.Cells(), "Changes": state.Changes(none, s)} {
			fill(l[i].Value, 0xee)
			for k, c := range l {
				if k != i && !sameCell(c, want[k]) {
					t.Errorf("%s: cell %d is filled with cell %d", what, k, i)
				}
			}
		}
	}
}

// P18.5: what is appended to one answer stands in no other one.
func TestAppended(t *testing.T) {
	s := state.Of(pastOf(t, busy()))
	one, two := append(s.Register("k"), "x"), append(s.Register("k"), "y")
	three, four := append(s.Members("k"), "x"), append(s.Members("k"), "y")
	five, six := append(s.Keys(1), "x"), append(s.Keys(1), "y")
	if one[2]+two[2]+three[2]+four[2]+five[2]+six[2] != "xyxyxy" {
		t.Errorf("%q %q %q %q %q %q", one, two, three, four, five, six)
	}
	a, b := s.Cells(), s.Cells()
	a, b = append(a, cell(4, "x", "")), append(b, cell(4, "y", ""))
	for i := range a[:len(a)-1] {
		a[i].Value, b[i].Value = append(a[i].Value, 7), append(b[i].Value, 8)
	}
	for i := range a[:len(a)-1] {
		if a[i].Value[len(a[i].Value)-1] != 7 || b[i].Value[len(b[i].Value)-1] != 8 {
			t.Errorf("cell %d: %x, %x", i, a[i].Value, b[i].Value)
		}
	}
	if a[len(a)-1].Key != "x" || b[len(b)-1].Key != "y" {
		t.Errorf("%s; %s", showCells(a), showCells(b))
	}
	wantBusy(t, "appended", s)
}

// P18.5: a cell that is handed to Read stays as it was, its spare room too, and isn't kept: what was told stays when it is written over, and what is told can be, too.
func TestReadMemory(t *testing.T) {
	for _, c := range cellsOf(busyTales()) {
		whole := append(slices.Clone(c.Value), 0xaa, 0xbb, 0xcc)
		given := api.Cell{Kind: c.Kind, Key: c.Key, Value: whole[:len(c.Value)]}
		x, bad := readOf(c)
		if bad != nil {
			t.Fatal(bad)
		}
		texts, n, items, err := state.Read(given)
		texts2, _, items2, _ := state.Read(given)
		if err != nil || !slices.Equal(whole, append(slices.Clone(c.Value), 0xaa, 0xbb, 0xcc)) {
			t.Errorf("%s: handed in, and changed: %x, %v", showCells([]api.Cell{c}), whole, err)
		}
		fill(whole, 0xee)
		fill(texts2, "filled")
		fill(items2, api.Item{Text: "filled"})
		if got := (told{texts, n, items}); !got.same(x) {
			t.Errorf("%s: written over: %v", showCells([]api.Cell{c}), got)
		}
	}
}

// wantEntries fails, if a history isn't that of busy.
func wantEntries(t *testing.T, p *past.Past) {
	t.Helper()
	want := oneOrder(busy())
	if p.Len() != len(want) {
		t.Fatalf("%d entries", p.Len())
	}
	for i, x := range p.All() {
		if x.ID != want[i].ID || !node.Same(x.Node, want[i].Node) {
			t.Errorf("entry %d: %s", i, showAll([]api.Entry{x}))
		}
		for j, y := range want {
			if p.Sees(j, i) != slices.Contains(seen(want, x.ID), y.ID) {
				t.Errorf("Sees(%d, %d)", j, i)
			}
		}
	}
}

// P18.5: the history stays as it was, and may be asked on; so does a state, whatever is asked of it.
func TestHistoryStays(t *testing.T) {
	p := pastOf(t, busy())
	s := state.Of(p)
	earlier := state.Of(pastAt(t, p, letters("c")))
	for _, kind := range kinds() {
		for _, key := range append(names(), "gone", "l", "n", "none") {
			s.Cell(kind, key)
			wantTale(t, "asked", s, key, busyTales()[key])
		}
		s.Keys(kind)
	}
	wantChanges(t, "asked", earlier, s)
	wantEntries(t, p)
	wantBusy(t, "asked", s)
	wantBusy(t, "made again", state.Of(p))
	wantTale(t, "earlier", earlier, "k", tale{register: []string{"1"}, set: []string{"a", "b"}, count: 5, list: []api.Item{{ID: id('c', 5), Text: "x"}, {ID: id('c', 6), Text: "y"}}})
}

// P18.5: what the history was made of may be written over.
func TestWrittenOver(t *testing.T) {
	l := busy()
	p := pastOf(t, l)
	s := state.Of(p)
	for _, x := range l {
		fill(x.Node.Ops, put("filled", "x"))
		fill(x.Node.Parents, api.Hash{'f'})
	}
	fill(l, api.Entry{})
	wantBusy(t, "written over", s)
	wantBusy(t, "written over, and made again", state.Of(p))
}

// R4: two states have nothing in common, also where their histories have the same hashes.
func TestNothingKept(t *testing.T) {
	s := state.Of(pastOf(t, busy()))
	other := of(t, tx('c', "", put("k", "9")), tx('b', "c", add("z", "1")), tx('a', "c"))
	for range 3 {
		wantBusy(t, "the one", s)
		wantShown(t, "the other one", other, map[string]tale{"k": {register: []string{"9"}}, "z": {set: []string{"1"}}})
		wantBusy(t, "made again", state.Of(pastOf(t, busy())))
	}
}

// R4: many cells are told in the same order each time; no map's order shows.
func TestManyInOrder(t *testing.T) {
	ops, want := []api.Op{}, map[string]tale{}
	for i := range 300 {
		key := fmt.Sprint(i * 7 % 300)
		ops = append(ops, put(key, "x"), add(key, "y"), incr(key, 1))
		want[key] = tale{register: []string{"x"}, set: []string{"y"}, count: 1}
	}
	p, none := pastOf(t, entries(tx('a', "", ops...))), of(t)
	for range 5 {
		s := state.Of(p)
		wantCells(t, "Cells", s.Cells(), cellsOf(want)...)
		wantCells(t, "Changes", state.Changes(none, s), cellsOf(want)...)
	}
}

// R4: many may ask one state, and make states of one history, at one time.
func TestAtOneTime(t *testing.T) {
	p := pastOf(t, busy())
	s := state.Of(p)
	var all sync.WaitGroup
	for range 8 {
		all.Go(func() {
			for range 10 {
				wantBusy(t, "at one time", s)
				wantBusy(t, "made at one time", state.Of(p))
			}
		})
	}
	all.Wait()
}
