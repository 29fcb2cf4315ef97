package seq_test

import (
	"fmt"
	"slices"
	"sync"
	"testing"

	"pleach/api"
	"pleach/node"
	"pleach/past"
	"pleach/seq"
)

// fill fills a list, its spare room too, with what nobody told.
func fill[T any](l []T, x T) {
	l = l[:cap(l)]
	for i := range l {
		l[i] = x
	}
}

// busy tells entries whose lists show items and none, and keys in no order.
func busy() []api.Entry {
	return entries([]one{
		tx('c', "", ins("1"), under("l", ins("2")), under("gone", ins("3")), under("", ins("4")), ins("5", own(1))),
		tx('b', "c", ins("6", id('c', 1)), under("gone", del(id('c', 3))), under("m", ins("7")), ins("8", own(1)), ins("no", id('a', 1))),
		tx('a', "c", ins("9", id('c', 1)), under("m", ins("A")), under("z", ins("B")), under("", del(id('c', 4))), del(id('c', 5))),
		tx('d', "", ins("C"), under("m", ins("D")), under("m", del(own(2))), under("m", ins("E", own(2))), under("a", ins("F"))),
	})
}

// wantBusy fails, if what is told of busy is something else.
func wantBusy(t *testing.T, what string, p *past.Past) {
	t.Helper()
	for key, want := range map[string][2]string{"": {"", "4"}, "a": {"F", "F"}, "gone": {"", "3"}, "k": {"C1689", "C16895"}, "l": {"2", "2"}, "m": {"E7A", "DE7A"}, "z": {"B", "B"}} {
		wantTexts(t, what, p, key, want[0], want[1])
	}
	wantKeys(t, what, p, "a", "k", "l", "m", "z")
	wantBehind(t, what, p, "k", id('c', 1), "695")
	wantBehind(t, what, p, "k", api.Ident{}, "C1")
	wantErrAt(t, what, p, "k", id('b', 5))
}

// behindOne tells what is laid behind the item of busy behind which most are laid.
func behindOne(p *past.Past) []api.Item {
	l, _ := seq.Behind(p, "k", id('c', 1))
	return l
}

// calls are those that answer items.
func calls() map[string]func(*past.Past) []api.Item {
	return map[string]func(*past.Past) []api.Item{
		"Items":  func(p *past.Past) []api.Item { return seq.Items(p, "k") },
		"All":    func(p *past.Past) []api.Item { return seq.All(p, "k") },
		"Behind": behindOne,
	}
}

// P17.4: each list that is answered is new memory, its spare room too: filling it changes neither another answer nor what is told then nor the history.
func TestAnswersMemory(t *testing.T) {
	p := of(t, busy())
	q := at(t, p, p.Heads())
	junk := api.Item{ID: id('f', 6), Text: "filled"}
	for range 3 {
		kept := map[string][]api.Item{}
		for name, call := range calls() {
			kept[name] = call(p)
		}
		keys := seq.Keys(p)
		for _, call := range calls() {
			fill(call(p), junk)
		}
		fill(seq.Keys(p), "filled")
		for name, want := range map[string]string{"Items": "C1689", "All": "C16895", "Behind": "695"} {
			if texts(kept[name]) != want {
				t.Errorf("%s: another answer: %s", name, showItems(kept[name]))
			}
			fill(kept[name], junk)
		}
		if !slices.Equal(keys, []string{"a", "k", "l", "m", "z"}) {
			t.Errorf("another answer: %q", keys)
		}
		fill(keys, "filled")
		wantBusy(t, "filled", p)
		wantBusy(t, "filled, at its heads", q)
	}
}

// P17.4: what is appended to one answer stands in no other one.
func TestAppended(t *testing.T) {
	p := of(t, busy())
	for name, call := range calls() {
		one, two := call(p), call(p)
		n := len(one)
		one, two = append(one, api.Item{Text: "x"}), append(two, api.Item{Text: "y"})
		if one[n].Text != "x" || two[n].Text != "y" || !slices.Equal(one[:n], two[:n]) {
			t.Errorf("%s: %s; %s", name, showItems(one), showItems(two))
		}
	}
	one, two := append(seq.Keys(p), "x"), append(seq.Keys(p), "y")
	if one[5] != "x" || two[5] != "y" {
		t.Errorf("Keys: %q, %q", one, two)
	}
	wantBusy(t, "appended", p)
}

// P17.4: the history stays as it was, whatever is asked of it.
func TestHistoryStays(t *testing.T) {
	p := of(t, busy())
	for _, key := range append(names(), "gone", "m", "none") {
		seq.Items(p, key)
		seq.All(p, key)
		seq.Keys(p)
		for _, at := range append(odd(), api.Ident{}, id('c', 1), id('a', 9)) {
			seq.Behind(p, key, at)
		}
	}
	want := oneOrder(busy())
	if p.Len() != len(want) {
		t.Fatalf("%d entries", p.Len())
	}
	for i, x := range p.All() {
		if x.ID != want[i].ID || !node.Same(x.Node, want[i].Node) {
			t.Errorf("entry %d: %s", i, showAll([]api.Entry{x}))
		}
		for j, y := range want {
			if p.Sees(j, i) != slices.Contains(seen(want, x.ID), y.ID) {
				t.Errorf("Sees(%d, %d)", j, i)
			}
		}
	}
	wantBusy(t, "asked", p)
}

// P17.4: what the history was made of may be written over: what is told hangs on the history alone.
func TestWrittenOver(t *testing.T) {
	l := busy()
	p := of(t, l)
	for _, x := range l {
		fill(x.Node.Ops, ins("filled"))
		fill(x.Node.Parents, api.Hash{'f'})
	}
	fill(l, api.Entry{})
	wantBusy(t, "written over", p)
}

// P17.4: nothing is kept: what was told of one history has nothing to do with what is told of another one that has the same hashes, or of a key that was asked for before.
func TestNothingKept(t *testing.T) {
	p := of(t, busy())
	q := history(t, tx('c', ""), tx('b', "c", under("x", ins("1"))), tx('a', "c", ins("2"), ins("no", id('c', 1))), tx('d', ""))
	for range 3 {
		wantBusy(t, "the one", p)
		wantTexts(t, "the other one", q, "k", "2", "2")
		wantTexts(t, "the other one", q, "l", "", "")
		wantKeys(t, "the other one", q, "k", "x")
		wantErrAt(t, "the other one", q, "k", id('c', 1), id('c', 5), id('b', 1))
		earlier := at(t, p, letters("c"))
		wantTexts(t, "earlier", earlier, "k", "15", "15")
		wantKeys(t, "earlier", earlier, "", "gone", "k", "l")
		wantErrAt(t, "earlier", earlier, "k", id('b', 1), id('d', 1))
	}
}

// R4: many keys and items are told in the same order each time; no map's order shows.
func TestManyInOrder(t *testing.T) {
	ops, keys, want := []api.Op{}, []string{}, ""
	for i := range 500 {
		key := fmt.Sprint(i * 7 % 500)
		ops, keys = append(ops, under(key, ins("x")), under("500", ins(key))), append(keys, key)
		want = key + want
	}
	keys = slices.Sorted(slices.Values(append(keys, "500")))
	p := history(t, tx('a', "", ops...))
	for range 5 {
		wantKeys(t, "many", p, keys...)
		wantTexts(t, "many", p, "500", want, want)
		wantBehind(t, "many", p, "500", api.Ident{}, want)
	}
}

// R4: many may ask one history at one time.
func TestAtOneTime(t *testing.T) {
	p := of(t, busy())
	var all sync.WaitGroup
	for range 8 {
		all.Go(func() {
			for range 20 {
				wantBusy(t, "at one time", p)
			}
		})
	}
	all.Wait()
}
