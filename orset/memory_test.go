package orset_test

import (
	"fmt"
	"slices"
	"sync"
	"testing"

	"pleach/api"
	"pleach/node"
	"pleach/orset"
	"pleach/past"
)

// fill fills a list, its spare room too, with what nobody told.
func fill(l []string) {
	l = l[:cap(l)]
	for i := range l {
		l[i] = "filled"
	}
}

// busy tells entries whose sets have one text, several and none, and keys in no order.
func busy() []api.Entry {
	return entries([]one{
		tx('c', "", add("k", "5"), add("l", "2"), add("gone", "3"), add("", "4"), add("k", "1")),
		tx('b', "c", add("k", "3"), remove("gone", "3"), add("m", "6"), remove("k", "5")),
		tx('a', "c", add("k", "2"), add("m", "4"), add("z", "9"), wipe("")),
		tx('d', "", add("k", "0"), add("m", "1"), add("m", "2"), add("a", "3"), add("k", "2")),
	})
}

// wantBusy fails, if what is told of busy is something else.
func wantBusy(t *testing.T, what string, p *past.Past) {
	t.Helper()
	wantAll(t, what, p, map[string][]string{"a": {"3"}, "k": {"0", "1", "2", "3"}, "l": {"2"}, "m": {"1", "2", "4", "6"}, "z": {"9"}})
}

// P15.4: each list that is answered is new memory, its spare room too: filling it changes neither another answer nor what is told then nor the history.
func TestAnswersMemory(t *testing.T) {
	p := of(t, busy())
	q := at(t, p, p.Heads())
	for range 3 {
		keys, other := orset.Keys(p), orset.Keys(p)
		read := map[string][]string{}
		for _, key := range other {
			read[key] = orset.Members(p, key)
			fill(orset.Members(p, key))
		}
		fill(keys)
		for key, l := range read {
			wantSet(t, "filled", p, key, l...)
		}
		if !slices.Equal(other, []string{"a", "k", "l", "m", "z"}) {
			t.Errorf("another answer: %q", other)
		}
		for _, l := range read {
			fill(l)
		}
		fill(other)
		wantBusy(t, "filled", p)
		wantBusy(t, "filled, at its heads", q)
	}
}

// P15.4: what is appended to one answer stands in no other one.
func TestAppended(t *testing.T) {
	p := of(t, busy())
	one, two := orset.Members(p, "k"), orset.Members(p, "k")
	one, two = append(one, "x"), append(two, "y")
	if !slices.Equal(one, []string{"0", "1", "2", "3", "x"}) || !slices.Equal(two, []string{"0", "1", "2", "3", "y"}) {
		t.Errorf("Members: %q, %q", one, two)
	}
	one, two = append(orset.Keys(p), "x"), append(orset.Keys(p), "y")
	if one[5] != "x" || two[5] != "y" {
		t.Errorf("Keys: %q, %q", one, two)
	}
	wantBusy(t, "appended", p)
}

// P15.4: the history stays as it was, whatever is asked of it.
func TestHistoryStays(t *testing.T) {
	p := of(t, busy())
	for _, key := range append(names(), "gone", "m", "k", "none") {
		orset.Members(p, key)
		orset.Has(p, key, "1")
		orset.Keys(p)
	}
	want := oneOrder(busy())
	if p.Len() != len(want) {
		t.Fatalf("%d entries", p.Len())
	}
	for i, x := range p.All() {
		if x.ID != want[i].ID || !node.Same(x.Node, want[i].Node) {
			t.Errorf("entry %d: %s", i, showAll([]api.Entry{x}))
		}
		for j, y := range want {
			if p.Sees(j, i) != slices.Contains(seen(want, x.ID), y.ID) {
				t.Errorf("Sees(%d, %d)", j, i)
			}
		}
	}
	wantBusy(t, "asked", p)
}

// P15.4: nothing is kept: what was told of one history has nothing to do with what is told of another one that has the same hashes, or of a key that was asked for before.
func TestNothingKept(t *testing.T) {
	p := of(t, busy())
	q := history(t, tx('c', ""), tx('b', "c", add("x", "1")), tx('a', "c", add("k", "2")), tx('d', ""))
	for range 3 {
		wantBusy(t, "the one", p)
		wantAll(t, "the other one", q, map[string][]string{"x": {"1"}, "k": {"2"}})
		wantAll(t, "earlier", at(t, p, letters("c")), map[string][]string{"": {"4"}, "gone": {"3"}, "k": {"1", "5"}, "l": {"2"}})
	}
}

// R4: many keys and texts are told in the same order each time; no map's order shows.
func TestManyInOrder(t *testing.T) {
	ops, want := []api.Op{}, []string{}
	for i := range 500 {
		name := fmt.Sprint(i * 7 % 500)
		ops, want = append(ops, add(name, "x"), add("500", name)), append(want, name)
	}
	slices.Sort(want)
	p := history(t, tx('a', "", ops...))
	for range 5 {
		if got := orset.Members(p, "500"); !slices.Equal(got, want) {
			t.Errorf("Members: %q", got)
		}
		if got := orset.Keys(p); !slices.Equal(got, slices.Sorted(slices.Values(append(want, "500")))) {
			t.Errorf("Keys: %q", got)
		}
	}
}

// R4: many may ask one history at one time.
func TestAtOneTime(t *testing.T) {
	p := of(t, busy())
	var all sync.WaitGroup
	for range 8 {
		all.Go(func() {
			for range 20 {
				wantBusy(t, "at one time", p)
			}
		})
	}
	all.Wait()
}
