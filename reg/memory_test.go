package reg_test

import (
	"fmt"
	"slices"
	"sync"
	"testing"

	"pleach/api"
	"pleach/node"
	"pleach/past"
	"pleach/reg"
)

// fill fills a list, its spare room too, with what nobody told.
func fill(l []string) {
	l = l[:cap(l)]
	for i := range l {
		l[i] = "filled"
	}
}

// busy tells entries whose registers hold one text, several and none, and keys in no order.
func busy() []api.Entry {
	return entries([]one{
		tx('c', "", put("k", "1"), put("l", "2"), put("gone", "3"), put("", "4")),
		tx('b', "c", put("k", "5"), clean("gone"), put("m", "6")),
		tx('a', "c", put("k", "7"), put("m", "8"), put("z", "9"), clean("")),
		tx('d', "", put("k", "0"), put("m", "1"), put("m", "2"), put("a", "3")),
	})
}

// wantBusy fails, if what is told of busy is something else.
func wantBusy(t *testing.T, what string, p *past.Past) {
	t.Helper()
	wantAll(t, what, p, map[string][]string{"a": {"3"}, "k": {"7", "5", "0"}, "l": {"2"}, "m": {"8", "6", "2"}, "z": {"9"}})
}

// P14.3: each list that is answered is new memory, its spare room too: filling it changes neither another answer nor what is told then nor the history.
func TestAnswersMemory(t *testing.T) {
	p := of(t, busy())
	q := at(t, p, p.Heads())
	for range 3 {
		keys, other := reg.Keys(p), reg.Keys(p)
		read := map[string][]string{}
		for _, key := range other {
			read[key] = reg.Read(p, key)
			fill(reg.Read(p, key))
		}
		fill(keys)
		for key, l := range read {
			wantRead(t, "filled", p, key, l...)
		}
		if !slices.Equal(other, []string{"a", "k", "l", "m", "z"}) {
			t.Errorf("another answer: %q", other)
		}
		for _, l := range read {
			fill(l)
		}
		fill(other)
		wantBusy(t, "filled", p)
		wantBusy(t, "filled, at its heads", q)
	}
}

// P14.3: what is appended to one answer stands in no other one.
func TestAppended(t *testing.T) {
	p := of(t, busy())
	one, two := reg.Read(p, "k"), reg.Read(p, "k")
	one, two = append(one, "x"), append(two, "y")
	if !slices.Equal(one, []string{"7", "5", "0", "x"}) || !slices.Equal(two, []string{"7", "5", "0", "y"}) {
		t.Errorf("Read: %q, %q", one, two)
	}
	one, two = append(reg.Keys(p), "x"), append(reg.Keys(p), "y")
	if one[5] != "x" || two[5] != "y" {
		t.Errorf("Keys: %q, %q", one, two)
	}
	wantBusy(t, "appended", p)
}

// P14.3: the history stays as it was, whatever is asked of it.
func TestHistoryStays(t *testing.T) {
	p := of(t, busy())
	for _, key := range append(names(), "gone", "m", "none") {
		reg.Read(p, key)
		reg.Keys(p)
	}
	want := oneOrder(busy())
	if p.Len() != len(want) {
		t.Fatalf("%d entries", p.Len())
	}
	for i, x := range p.All() {
		if x.ID != want[i].ID || !node.Same(x.Node, want[i].Node) {
			t.Errorf("entry %d: %s", i, showAll([]api.Entry{x}))
		}
		for j, y := range want {
			if p.Sees(j, i) != slices.Contains(seen(want, x.ID), y.ID) {
				t.Errorf("Sees(%d, %d)", j, i)
			}
		}
	}
	wantBusy(t, "asked", p)
}

// P14.3: nothing is kept: what was told of one history has nothing to do with what is told of another one that has the same hashes, or of a key that was asked for before.
func TestNothingKept(t *testing.T) {
	p := of(t, busy())
	q := history(t, tx('c', ""), tx('b', "c", put("x", "1")), tx('a', "c", put("k", "2")), tx('d', ""))
	for range 3 {
		wantBusy(t, "the one", p)
		wantAll(t, "the other one", q, map[string][]string{"x": {"1"}, "k": {"2"}})
		wantAll(t, "earlier", at(t, p, letters("c")), map[string][]string{"": {"4"}, "gone": {"3"}, "k": {"1"}, "l": {"2"}})
	}
}

// R4: many keys are told in the same order each time; no map's order shows.
func TestManyKeysInOrder(t *testing.T) {
	ops, want := []api.Op{}, []string{}
	for i := range 500 {
		key := fmt.Sprint(i * 7 % 500)
		ops, want = append(ops, put(key, key)), append(want, key)
	}
	slices.Sort(want)
	p := history(t, tx('a', "", ops...))
	for range 5 {
		wantKeys(t, "many", p, want...)
	}
}

// R4: many may ask one history at one time.
func TestAtOneTime(t *testing.T) {
	p := of(t, busy())
	var all sync.WaitGroup
	for range 8 {
		all.Go(func() {
			for range 50 {
				wantBusy(t, "at one time", p)
			}
		})
	}
	all.Wait()
}
