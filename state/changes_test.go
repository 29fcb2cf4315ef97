package state_test

import (
	"slices"
	"testing"

	"pleach/api"
	"pleach/state"
)

// changesOf tells what the chapter's words say of the changes between the cells of two states.
func changesOf(a, b []api.Cell) []api.Cell {
	at := func(l []api.Cell, c api.Cell) int {
		return slices.IndexFunc(l, func(x api.Cell) bool { return x.Kind == c.Kind && x.Key == c.Key })
	}
	out := []api.Cell{}
	for _, c := range b {
		if i := at(a, c); i < 0 || !sameCell(a[i], c) {
			out = append(out, c)
		}
	}
	for _, c := range a {
		if at(b, c) < 0 {
			out = append(out, api.Cell{Kind: c.Kind, Key: c.Key})
		}
	}
	sortCells(out)
	return out
}

// sortCells brings cells in order: each goes ahead of those that stand behind it.
func sortCells(l []api.Cell) {
	ahead := func(a, b api.Cell) bool {
		return a.Kind < b.Kind || a.Kind == b.Kind && slices.Compare([]byte(a.Key), []byte(b.Key)) < 0
	}
	for i := range l {
		for k := i; k > 0 && ahead(l[k], l[k-1]); k-- {
			l[k], l[k-1] = l[k-1], l[k]
		}
	}
}

// changed tells cells with changes put into them, those without a Value taken away.
func changed(l, changes []api.Cell) []api.Cell {
	l = slices.Clone(l)
	for _, c := range changes {
		l = slices.DeleteFunc(l, func(x api.Cell) bool { return x.Kind == c.Kind && x.Key == c.Key })
		if len(c.Value) > 0 {
			l = append(l, c)
		}
	}
	sortCells(l)
	return l
}

// wantChanges fails, if the changes of two states are not what the words say, or if who puts the ones into the other's cells has not the other's.
func wantChanges(t *testing.T, what string, a, b *state.State) {
	t.Helper()
	for _, x := range [][2]*state.State{{a, b}, {b, a}} {
		got := state.Changes(x[0], x[1])
		wantCells(t, what, got, changesOf(x[0].Cells(), x[1].Cells())...)
		wantCells(t, what+", put in", changed(x[0].Cells(), got), x[1].Cells()...)
	}
}

// P18.1: the chapter's example, and the way back.
func TestChangesExample(t *testing.T) {
	first := tx('a', "", put("k", "x"), add("k", "b"), add("k", "a"), incr("k", -1))
	a, b := of(t, first), of(t, first, tx('b', "a", zero("k"), put("l", "")))
	wantCells(t, "there", state.Changes(a, b), cell(1, "l", "01 00"), cell(3, "k", ""))
	wantCells(t, "back", state.Changes(b, a), cell(1, "l", ""), cell(3, "k", "01"))
	wantChanges(t, "example", a, b)
}

// P18.1: a state and itself, and one of the same cells, have no changes; of nothing and a state all are, and back all go.
func TestChangesOfNothing(t *testing.T) {
	s, none := state.Of(pastOf(t, busy())), of(t)
	wantCells(t, "itself", state.Changes(s, s))
	wantCells(t, "nothing and itself", state.Changes(none, none))
	wantCells(t, "the same", state.Changes(s, state.Of(pastOf(t, busy()))))
	wantCells(t, "two of nothing", state.Changes(none, of(t, tx('a', ""))))
	wantCells(t, "from nothing", state.Changes(none, s), s.Cells()...)
	gone := s.Cells()
	for i := range gone {
		gone[i].Value = nil
	}
	wantCells(t, "to nothing", state.Changes(s, none), gone...)
}

// P18.1: cells that are unlike in kind, in key, in Value, and in several of these; a text that came twice is another Value, and the same things that were done otherwise are none.
func TestChangesUnlike(t *testing.T) {
	one := func(ops ...api.Op) *state.State { return of(t, tx('a', "", ops...)) }
	a := one(put("k", "x"))
	wantCells(t, "kind", state.Changes(a, one(add("k", "x"))), cell(1, "k", ""), cell(2, "k", "01 01 78"))
	wantCells(t, "kind, back", state.Changes(one(add("k", "x")), a), cell(1, "k", "01 01 78"), cell(2, "k", ""))
	wantCells(t, "key", state.Changes(a, one(put("j", "x"))), cell(1, "j", "01 01 78"), cell(1, "k", ""))
	wantCells(t, "key, a beginning", state.Changes(a, one(put("kk", "x"))), cell(1, "k", ""), cell(1, "kk", "01 01 78"))
	wantCells(t, "no key", state.Changes(a, one(put("", "x"))), cell(1, "", "01 01 78"), cell(1, "k", ""))
	wantCells(t, "Value", state.Changes(a, one(put("k", "y"))), cell(1, "k", "01 01 79"))
	wantCells(t, "Value of no bytes", state.Changes(a, one(put("k", ""))), cell(1, "k", "01 00"))
	wantCells(t, "twice", state.Changes(a, of(t, tx('a', "", put("k", "x")), tx('b', "", put("k", "x")))), cell(1, "k", "02 01 78 01 78"))
	wantCells(t, "done otherwise", state.Changes(a, of(t, tx('b', "", put("k", "y"), reset("k")), tx('c', "b", put("k", "x"), add("k", "x"), wipe("k")))))
	wantCells(t, "count", state.Changes(one(incr("k", 1)), one(incr("k", -1))), cell(3, "k", "01"))
	wantCells(t, "an item's name alone", state.Changes(of(t, tx('a', "", ins("k", "x"))), of(t, tx('b', "", ins("k", "x")))), cell(4, "k", "01 62"+zeroHash[2:]+"01 01 78"))
	wantCells(t, "an item's Op alone", state.Changes(one(ins("k", "x")), one(zero("k"), ins("k", "x"))), cell(4, "k", "01 61"+zeroHash[2:]+"02 01 78"))
	all := one(put("b", "x"), add("b", "x"), incr("b", 1), put("d", "x"), add("d", "x"), incr("d", 1))
	wantCells(t, "among others", state.Changes(all, one(put("b", "x"), add("b", "y"), put("c", "x"), put("d", "x"), add("e", "x"), incr("a", 1), incr("d", 2))),
		cell(1, "c", "01 01 78"), cell(2, "b", "01 01 79"), cell(2, "d", ""), cell(2, "e", "01 01 78"), cell(3, "a", "02"), cell(3, "b", ""), cell(3, "d", "04"))
}

// P18.3: of whatever two histories, and of what they were at earlier heads, who has the one's cells and puts the changes into them has the other's.
func TestChanges(t *testing.T) {
	r := chance()
	some3 := [3]int{}
	for range 300 {
		la, lb := related(r)
		pa, pb := pastOf(t, mixed(r, la)), pastOf(t, mixed(r, lb))
		a, b := state.Of(pa), state.Of(pb)
		wantChanges(t, "two", a, b)
		earlier := state.Of(pastAt(t, pb, some(r, lb)))
		wantChanges(t, "earlier", earlier, b)
		wantChanges(t, "earlier, and another one", a, earlier)
		wantCells(t, "itself", state.Changes(a, a))
		for _, c := range state.Changes(a, b) {
			_, was := a.Cell(c.Kind, c.Key)
			switch {
			case len(c.Value) == 0:
				some3[0]++
			case was:
				some3[1]++
			default:
				some3[2]++
			}
		}
		if t.Failed() {
			t.Fatalf("%s\n%s", showAll(la), showAll(lb))
		}
	}
	if slices.Min(some3[:]) < 200 {
		t.Errorf("too much alike: %d cells went, %d changed, %d came", some3[0], some3[1], some3[2])
	}
}

// P18.3: through several states in a row.
func TestChangesInARow(t *testing.T) {
	r := chance()
	for range 30 {
		l := soil{r: r, keys: names(), most: 5}.grown(nil, 12)
		cells, last := []api.Cell{}, of(t)
		for n := range len(l) + 1 {
			next := state.Of(pastOf(t, l[:n]))
			cells = changed(cells, state.Changes(last, next))
			wantCells(t, "in a row", cells, next.Cells()...)
			last = next
		}
		if t.Failed() {
			t.Fatal(showAll(l))
		}
	}
}
