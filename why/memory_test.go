package why_test

import (
	"fmt"
	"slices"
	"sync"
	"testing"

	"pleach/api"
	"pleach/past"
	"pleach/why"
)

// fill fills a list, its spare room too, with what nobody told.
func fill[T any](l []T, x T) {
	l = l[:cap(l)]
	for i := range l {
		l[i] = x
	}
}

// fillMarks fills what marks have as By, then the list.
func fillMarks(l []why.Mark) {
	for _, m := range l {
		fill(m.By, id('?', 99))
	}
	fill(l, why.Mark{Of: id('?', 99), Author: 99, By: []api.Ident{id('?', 98)}})
}

// busy tells entries with several makers of each kind, and such as are undone by several.
func busy() []api.Entry {
	return entries(
		tx('c', "", put("k", "1"), add("k", "x"), add("k", "y"), incr("k", 5), ins("k", "x"), ins("k", "y", self(5)), add("k", "z")),
		tx('b', "c", put("k", "2"), remove("k", "x"), incr("k", -1), zero("k"), incr("k", 2), ins("k", "p", id('c', 5)), del("k", id('c', 5)), wipe("k")),
		tx('a', "c", put("k", "3"), remove("k", "x"), add("k", "x"), incr("k", 3), zero("k"), ins("k", "q", id('c', 5)), del("k", id('c', 5)), del("k", id('c', 6))),
		tx('d', "", put("k", "4"), add("k", "x"), incr("k", 0), ins("k", "r")),
	)
}

// story is what is told of a cell.
type story struct{ makers, undone string }

// stories tell what is told of busy, by the kind.
func stories() map[int]story {
	return map[int]story{
		api.CellRegister: {"a1 b1 d1", "c1-a1-b1"},
		api.CellSet:      {"a3 d2", "c2-a2-b2-b8 c3-b8 c7-b8"},
		api.CellCounter:  {"b5 d3", "c4-a5-b4 a4-a5 b3-b4"},
		api.CellList:     {"a6 b6 d4", "c5-a7-b7 c6-a8"},
	}
}

// wantBusy fails, if of busy something else is told, by any of the calls.
func wantBusy(t *testing.T, what string, p *past.Past) {
	t.Helper()
	for kind, s := range stories() {
		wantCell(t, fmt.Sprint(what, ", ", kind), p, kind, "k", s.makers, s.undone)
		l, e := why.Lacks(p, letters("b"), kind, "k")
		if e != api.OK {
			t.Errorf("%s: Lacks: %d", what, e)
		}
		wantMarks(t, what+": Lacks", l, slices.DeleteFunc(marks(s.makers), func(m why.Mark) bool { return m.Of.Node == api.Hash{'b'} }))
	}
	wantAlone(t, p, api.Hash{'a'}, "ca")
}

// lackingOf tells what Lacks does.
func lackingOf(p *past.Past, heads []api.Hash, kind int) []why.Mark {
	l, _ := why.Lacks(p, heads, kind, "k")
	return l
}

// P25.6: each list that is answered, and each By in it, is new memory, its spare room too: filling it changes neither another answer nor what is told then nor the history.
func TestAnswersMemory(t *testing.T) {
	p := pastOf(t, busy())
	q := pastAt(t, p, p.Heads())
	for kind, s := range stories() {
		for range 2 {
			makers, undone, lacks, authors := why.Makers(p, kind, "k"), why.Undone(p, kind, "k"), lackingOf(p, nil, kind), why.Authors(p, kind, "k")
			again := slices.Clone(authors)
			fillMarks(why.Makers(p, kind, "k"))
			fillMarks(why.Undone(p, kind, "k"))
			fillMarks(lackingOf(p, nil, kind))
			fill(why.Authors(p, kind, "k"), 99)
			wantMarks(t, "another answer: Makers", makers, marks(s.makers))
			wantMarks(t, "another answer: Undone", undone, marks(s.undone))
			wantMarks(t, "another answer: Lacks", lacks, marks(s.makers))
			if !slices.Equal(authors, again) {
				t.Errorf("another answer: Authors: %d", authors)
			}
			fillMarks(makers)
			fillMarks(undone)
			fillMarks(lacks)
			fill(authors, 99)
			wantBusy(t, "filled", p)
			wantBusy(t, "filled, at its heads", q)
		}
	}
}

// P25.6: no two By of one answer share memory, spare room included, nor does what is appended to one stand in another one; makers have nothing there to be filled.
func TestListsApart(t *testing.T) {
	p := pastOf(t, busy())
	for kind, s := range stories() {
		want := marks(s.undone)
		for i := range want {
			l := why.Undone(p, kind, "k")
			fill(l[i].By, id('?', 99))
			_ = append(l[i].By, id('?', 98), id('?', 97), id('?', 96))
			for k, m := range l {
				if k != i && !sameMark(m, want[k]) {
					t.Errorf("kind %d: mark %d is filled with mark %d", kind, k, i)
				}
			}
		}
		for _, m := range slices.Concat(why.Makers(p, kind, "k"), lackingOf(p, letters("c"), kind)) {
			if cap(m.By) > 0 {
				t.Errorf("kind %d: room in what nothing undoes", kind)
			}
		}
	}
}

// P25.6: what is appended to one answer stands in no other one.
func TestAppended(t *testing.T) {
	p := pastOf(t, busy())
	for kind, s := range stories() {
		for what, call := range map[string]func() []why.Mark{
			"Makers": func() []why.Mark { return why.Makers(p, kind, "k") },
			"Undone": func() []why.Mark { return why.Undone(p, kind, "k") },
			"Lacks":  func() []why.Mark { return lackingOf(p, letters("c"), kind) },
		} {
			one, two := call(), call()
			n := len(one)
			one, two = append(one, marks("x1-x2")...), append(two, marks("y1-y2")...)
			wantMarks(t, what, one[n:], marks("x1-x2"))
			wantMarks(t, what, two[n:], marks("y1-y2"))
		}
		one, two := append(why.Authors(p, kind, "k"), 98), append(why.Authors(p, kind, "k"), 99)
		if n := len(authors(marks(s.makers))); one[n] != 98 || two[n] != 99 {
			t.Errorf("Authors: %d, %d", one, two)
		}
	}
	wantBusy(t, "appended", p)
}

// P25.6: heads that are handed in stay as they were, in their order, their spare room too, and aren't kept: what was told stays when they are written over.
func TestHeadsStay(t *testing.T) {
	p := pastOf(t, busy())
	for _, given := range []string{"", "b", "dcb", "bbad", "dbx"} {
		whole := letters(given + "zyx")
		heads := whole[:len(given)]
		for kind, s := range stories() {
			l, e := why.Lacks(p, heads, kind, "k")
			if !slices.Equal(whole, letters(given+"zyx")) {
				t.Errorf("handed in %q, and changed: %x", given, whole)
			}
			kept := slices.Clone(l)
			for i := range kept {
				kept[i].By = slices.Clone(l[i].By)
			}
			fill(whole, api.Hash{'f'})
			wantMarks(t, "written over", l, kept)
			copy(whole, letters(given+"zyx"))
			if l, e2 := why.Lacks(p, heads, kind, "k"); e != e2 || !slices.EqualFunc(l, kept, sameMark) {
				t.Errorf("asked again: %s, %d; %s, %d", show(l), e2, show(kept), e)
			}
			wantMarks(t, "all", lackingOf(p, nil, kind), marks(s.makers))
		}
	}
}

// P25.6: the history stays as it was, and may be asked on, as may the one of a transaction alone.
func TestHistoryStays(t *testing.T) {
	p := pastOf(t, busy())
	for _, kind := range slices.Concat(kinds(), noKinds()) {
		for _, key := range append(names(), "none") {
			why.Makers(p, kind, key)
			why.Undone(p, kind, key)
			why.Authors(p, kind, key)
			why.Lacks(p, letters("ca"), kind, key)
			why.Lacks(p, letters("x"), kind, key)
		}
	}
	alone, _ := why.Alone(p, api.Hash{'a'})
	wantHas(t, "asked", p, busy())
	wantHas(t, "alone", alone, upTo(busy(), letters("a")))
	for range 2 {
		wantBusy(t, "asked", p)
		wantCell(t, "alone", alone, api.CellSet, "k", "c3 c7 a3", "c2-a2")
	}
}

// P25.6: what the history was made of may be written over; so may what a history tells of its entries.
func TestWrittenOver(t *testing.T) {
	l := busy()
	p := pastOf(t, l)
	alone, _ := why.Alone(p, api.Hash{'a'})
	over := func(x api.Entry) {
		fill(x.Node.Ops, put("filled", "x"))
		fill(x.Node.Parents, api.Hash{'f'})
	}
	for _, x := range l {
		over(x)
	}
	fill(l, api.Entry{})
	for _, x := range alone.All() {
		over(x)
	}
	wantBusy(t, "written over", p)
	wantHas(t, "written over", p, busy())
	wantHas(t, "written over, alone", alone, upTo(busy(), letters("a")))
}

// R4: nothing is kept: what was told of one history has nothing to do with what is told of another one that has the same hashes, or of a cell that was asked for before.
func TestNothingKept(t *testing.T) {
	p := pastOf(t, busy())
	q := of(t, tx('c', "", ins("k", "9"), add("k", "x")), tx('b', "c", ins("k", "x", id('c', 1))), tx('a', "c", del("k", id('c', 1)), wipe("k")), tx('d', "a", ins("k", "1", id('a', 6))))
	for range 3 {
		wantBusy(t, "the one", p)
		wantCell(t, "the other one", q, api.CellList, "k", "b1", "c1-a1")
		wantCell(t, "the other one", q, api.CellSet, "k", "", "c2-a2")
		wantCell(t, "the other one", q, api.CellRegister, "k", "", "")
		wantCell(t, "earlier", pastAt(t, p, letters("c")), api.CellList, "k", "c5 c6", "")
	}
}

// R4: many are told in the same order each time; no map's order shows.
func TestManyInOrder(t *testing.T) {
	ops, undo := []api.Op{}, []api.Op{}
	for i := range 300 {
		ops = append(ops, add("k", fmt.Sprint(i)), ins("k", "x"))
		undo = append(undo, remove("k", fmt.Sprint(i*7%300)), del("k", id('a', 2*(i*7%300)+2)))
	}
	p := of(t, tx('a', "", ops...), tx('b', "a", undo...), tx('c', "b", undo...), tx('d', "", ops...))
	adds, items := []why.Mark{}, []why.Mark{}
	for i := range 300 {
		at := i * 43 % 300 // for 43 times 7 is one more than 300
		adds = append(adds, why.Mark{Of: id('a', 2*i+1), Author: 1, By: []api.Ident{id('b', 2*at+1), id('c', 2*at+1)}})
		items = append(items, why.Mark{Of: id('a', 2*i+2), Author: 1, By: []api.Ident{id('b', 2*at+2), id('c', 2*at+2)}})
	}
	for range 5 {
		wantMarks(t, "adds", why.Undone(p, api.CellSet, "k"), adds)
		wantMarks(t, "items", why.Undone(p, api.CellList, "k"), items)
		for i, m := range why.Makers(p, api.CellList, "k") {
			if m.Of != id('d', 2*i+2) {
				t.Fatalf("maker %d: %s", i, show([]why.Mark{m}))
			}
		}
	}
}

// R4: many may ask one history at one time.
func TestAtOneTime(t *testing.T) {
	p := pastOf(t, busy())
	var all sync.WaitGroup
	for range 8 {
		all.Go(func() {
			for range 10 {
				wantBusy(t, "at one time", p)
			}
		})
	}
	all.Wait()
}
