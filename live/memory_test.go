package live_test

import (
	"slices"
	"testing"

	"pleach/api"
	"pleach/live"
)

// fill fills a list, its spare room too, with what nobody told.
func fill[T any](l []T, x T) {
	l = l[:cap(l)]
	for i := range l {
		l[i] = x
	}
}

// fillCells fills the Values of cells, then the list.
func fillCells(l []api.Cell) {
	for _, c := range l {
		fill(c.Value, 0xee)
	}
	fill(l, api.Cell{Kind: 1, Key: "filled", Value: []byte{0xee}})
}

// roomy tells an entry whose lists have spare room, with something in it.
func roomy(x api.Entry) api.Entry {
	x.Node.Parents = append(slices.Clone(x.Node.Parents), api.Hash{'r'}, api.Hash{'s'})[:len(x.Node.Parents)]
	x.Node.Ops = append(slices.Clone(x.Node.Ops), put("k", "r"), wipe("k"))[:len(x.Node.Ops)]
	return x
}

// sameEntry tells whether two entries are the same, their lists' spare room too.
func sameEntry(a, b api.Entry) bool {
	whole := func(x api.Entry) ([]api.Hash, []api.Op) {
		n := x.Node
		return n.Parents[:len(n.Parents)+2], n.Ops[:len(n.Ops)+2]
	}
	pa, oa := whole(a)
	pb, ob := whole(b)
	return a.ID == b.ID && a.Node.Author == b.Node.Author && a.Node.Clock == b.Node.Clock && slices.Equal(pa, pb) && slices.Equal(oa, ob)
}

// P24.6: what is handed to Take stays as it was, its spare room too, taken or refused.
func TestHandedIn(t *testing.T) {
	v := live.New()
	for _, x := range base() {
		for _, want := range []api.Errno{api.OK, api.ErrState} {
			given := roomy(x)
			takes(t, v, given, want)
			if !sameEntry(given, roomy(x)) {
				t.Errorf("handed in, and changed: %s", showAll([]api.Entry{given}))
			}
		}
	}
	for _, x := range refused() {
		given := roomy(x.x)
		takes(t, v, given, x.want)
		if !sameEntry(given, roomy(x.x)) {
			t.Errorf("%s: handed in, and changed", x.what)
		}
	}
}

// P24.6: what was handed to Take may be written over behind it, its parents, its operations and their spare room: nothing of it is seen, in what is shown, in what comes next, or in a copy.
func TestWrittenOver(t *testing.T) {
	r := chance()
	for range 20 {
		l := soil{r: r, keys: names(), most: 6}.grown(nil, 12)
		v := live.New()
		for i, x := range l {
			given := roomy(x)
			takes(t, v, given, api.OK)
			fill(given.Node.Parents, api.Hash{'f'})
			fill(given.Node.Ops, put("filled", "x"))
			wantShown(t, "written over", v, l[:i+1])
			wantShown(t, "written over: a copy", v.Copy(), l[:i+1])
			wantCells(t, "written over: Last", v.Last(), lastOf(t, l[:i+1])...)
			if t.Failed() {
				t.Fatal(showAll(l[:i+1]))
			}
		}
	}
}

// answers are the calls that answer cells.
func answers(v *live.Live) map[string]func() []api.Cell {
	return map[string]func() []api.Cell{
		"Cells": v.Cells,
		"Last":  v.Last,
		"Cell": func() []api.Cell {
			c, _ := v.Cell(api.CellList, "k")
			return []api.Cell{c}
		},
	}
}

// busy tells one whose Last has a cell of each kind.
func busy(t *testing.T) (*live.Live, []api.Entry) {
	t.Helper()
	l := append(base(), behind(api.Hash{'e'}, base(), letters("d"), put("k", "e"), put("j", "e"), add("k", "c"), incr("k", 1), zero("l"), ins("k", "e"), ins("l", "f"), wipe("l")))
	return of(t, l...), l
}

// P24.6: each list that is answered, and each Value in it, is new memory, its spare room too: filling it changes neither another answer nor what is shown.
func TestAnswers(t *testing.T) {
	v, l := busy(t)
	was := pictureOf(v)
	for range 2 {
		for what, call := range answers(v) {
			kept, other := call(), call()
			again := slices.Clone(kept)
			for i := range again {
				again[i].Value = slices.Clone(kept[i].Value)
			}
			fillCells(other)
			wantCells(t, what+": another answer", kept, again...)
			wantPicture(t, what, v, was)
		}
		fill(v.Register("k"), "filled")
		fill(v.Members("k"), "filled")
		fill(v.Items("k"), api.Item{Text: "filled"})
		fill(v.Heads(), api.Hash{'f'})
		for _, kind := range kinds() {
			fill(v.Keys(kind), "filled")
		}
		wantPicture(t, "lists", v, was)
		wantShown(t, "lists", v, l)
	}
	wantTaken(t, "behind all that", v, l, behind(api.Hash{'g'}, l, letters("e"), put("k", "g"), ins("k", "g", id('e', 6))))
	wantCells(t, "an answer of earlier stays", was.cells, stateOf(t, l).Cells()...)
	wantCells(t, "a Last of earlier stays", was.last, lastOf(t, l)...)
}

// P24.6: no two Values of one answer share memory, spare room included.
func TestValuesApart(t *testing.T) {
	v, _ := busy(t)
	for what, call := range answers(v) {
		want := call()
		for i := range want {
			got := call()
			fill(got[i].Value, 0xee)
			for k, c := range got {
				if k != i && !sameCell(c, want[k]) {
					t.Errorf("%s: cell %d is filled with cell %d", what, k, i)
				}
			}
		}
	}
}

// P24.6: what is appended to one answer stands in no other one.
func TestAppended(t *testing.T) {
	v, _ := busy(t)
	was := pictureOf(v)
	for _, l := range [][2][]string{{v.Register("k"), v.Register("k")}, {v.Members("k"), v.Members("k")}, {v.Keys(1), v.Keys(1)}} {
		one, other := append(l[0], "x"), append(l[1], "y")
		if one[len(one)-1]+other[len(other)-1] != "xy" {
			t.Errorf("%q %q", one, other)
		}
	}
	one, other := append(v.Heads(), api.Hash{'x'}), append(v.Heads(), api.Hash{'y'})
	if one[1] != (api.Hash{'x'}) || other[1] != (api.Hash{'y'}) {
		t.Errorf("%x %x", one, other)
	}
	for what, call := range answers(v) {
		a, b := call(), call()
		for i := range a {
			a[i].Value, b[i].Value = append(a[i].Value, 7), append(b[i].Value, 8)
		}
		for i := range a {
			if a[i].Value[len(a[i].Value)-1] != 7 || b[i].Value[len(b[i].Value)-1] != 8 {
				t.Errorf("%s: cell %d: %x, %x", what, i, a[i].Value, b[i].Value)
			}
		}
	}
	wantPicture(t, "appended", v, was)
}

// P24.6: an answer and what was handed in share nothing: an entry that is made of answers may be taken, and these written over.
func TestMadeOfAnswers(t *testing.T) {
	v, l := busy(t)
	heads := v.Heads()
	x := raw(api.Hash{'f'}, 5, heads, put("k", v.Register("k")[0]), ins("k", "f", v.Items("k")[0].ID))
	kept := raw(x.ID, 5, slices.Clone(heads), slices.Clone(x.Node.Ops)...)
	takes(t, v, x, api.OK)
	fill(heads, api.Hash{'f'})
	fill(x.Node.Ops, api.Op{})
	wantShown(t, "made of answers", v, append(l, kept))
}

// R4: two of them have nothing in common, also where they take the same hashes.
func TestNothingKept(t *testing.T) {
	v, l := busy(t)
	other := of(t, entries(tx('c', "", put("k", "9")), tx('b', "c", add("z", "1")), tx('a', "c"))...)
	was, wasOther := pictureOf(v), pictureOf(other)
	for range 2 {
		again, _ := busy(t)
		wantPicture(t, "made again", again, was)
		wantPicture(t, "the one", v, was)
		wantPicture(t, "the other one", other, wasOther)
	}
	wantShown(t, "the one", v, l)
	if live.New().Len() != 0 || len(live.New().Cells()) != 0 {
		t.Error("a new one has something")
	}
}

// R4: many cells are told in the same order each time; no map's order shows.
func TestManyInOrder(t *testing.T) {
	ops := []api.Op{}
	for i := range 250 {
		key := string(rune('a'+i*7%25)) + string(rune('a'+i*7/25%10))
		ops = append(ops, put(key, "x"), add(key, string(rune('z'-i%26))), add("s", key), incr(key, 1))
	}
	x := raw(api.Hash{'a'}, 1, nil, ops...)
	for range 5 {
		v := of(t)
		wantTaken(t, "many", v, nil, x)
		wantCells(t, "Last is all", v.Last(), v.Cells()...)
	}
}
