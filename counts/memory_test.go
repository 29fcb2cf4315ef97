package counts_test

import (
	"fmt"
	"slices"
	"sync"
	"testing"

	"pleach/api"
	"pleach/counts"
	"pleach/node"
	"pleach/past"
)

// fill fills a list, its spare room too, with what nobody told.
func fill(l []string) {
	l = l[:cap(l)]
	for i := range l {
		l[i] = "filled"
	}
}

// busy tells entries whose counters come to something and to 0, and keys in no order.
func busy() []api.Entry {
	return entries([]one{
		tx('c', "", incr("k", 5), incr("l", 2), incr("gone", 3), incr("", 4), incr("k", 1)),
		tx('b', "c", incr("k", 3), zero("gone"), incr("m", 6), incr("l", 1)),
		tx('a', "c", incr("k", 2), incr("m", 4), incr("z", 9), zero("")),
		tx('d', "", incr("k", 7), incr("m", 1), zero("m"), incr("m", 2), incr("a", -3), incr("none", 2), incr("none", -2)),
	})
}

// wantBusy fails, if what is told of busy is something else.
func wantBusy(t *testing.T, what string, p *past.Past) {
	t.Helper()
	wantAll(t, what, p, map[string]int64{"a": -3, "k": 18, "l": 3, "m": 12, "z": 9})
}

// P16.4: each list that is answered is new memory, its spare room too: filling it changes neither another answer nor what is told then nor the history.
func TestAnswersMemory(t *testing.T) {
	p := of(t, busy())
	q := at(t, p, p.Heads())
	for range 3 {
		keys, other := counts.Keys(p), counts.Keys(p)
		fill(keys)
		if !slices.Equal(other, []string{"a", "k", "l", "m", "z"}) {
			t.Errorf("another answer: %q", other)
		}
		fill(other)
		wantBusy(t, "filled", p)
		wantBusy(t, "filled, at its heads", q)
	}
}

// P16.4: what is appended to one answer stands in no other one.
func TestAppended(t *testing.T) {
	p := of(t, busy())
	one, two := counts.Keys(p), counts.Keys(p)
	one, two = append(one, "x"), append(two, "y")
	if one[5] != "x" || two[5] != "y" {
		t.Errorf("Keys: %q, %q", one, two)
	}
	wantBusy(t, "appended", p)
}

// P16.4: the history stays as it was, whatever is asked of it.
func TestHistoryStays(t *testing.T) {
	p := of(t, busy())
	for _, key := range append(names(), "gone", "m", "none") {
		counts.Value(p, key)
		counts.Keys(p)
	}
	want := oneOrder(busy())
	if p.Len() != len(want) {
		t.Fatalf("%d entries", p.Len())
	}
	for i, x := range p.All() {
		if x.ID != want[i].ID || !node.Same(x.Node, want[i].Node) {
			t.Errorf("entry %d: %s", i, showAll([]api.Entry{x}))
		}
		for j, y := range want {
			if p.Sees(j, i) != slices.Contains(seen(want, x.ID), y.ID) {
				t.Errorf("Sees(%d, %d)", j, i)
			}
		}
	}
	wantBusy(t, "asked", p)
}

// P16.4: nothing is kept: what was told of one history has nothing to do with what is told of another one that has the same hashes, or of a key that was asked for before.
func TestNothingKept(t *testing.T) {
	p := of(t, busy())
	q := history(t, tx('c', ""), tx('b', "c", incr("x", 1)), tx('a', "c", incr("k", 2)), tx('d', ""))
	for range 3 {
		wantBusy(t, "the one", p)
		wantAll(t, "the other one", q, map[string]int64{"x": 1, "k": 2})
		wantAll(t, "earlier", at(t, p, letters("c")), map[string]int64{"": 4, "gone": 3, "k": 6, "l": 2})
	}
}

// R4: many keys are told in the same order each time; no map's order shows.
func TestManyInOrder(t *testing.T) {
	ops, want := []api.Op{}, []string{}
	for i := range 500 {
		key := fmt.Sprint(i * 7 % 500)
		ops, want = append(ops, incr(key, int64(i)+1)), append(want, key)
	}
	slices.Sort(want)
	p := history(t, tx('a', "", ops...))
	for range 5 {
		wantKeys(t, "many", p, want...)
	}
}

// R4: many may ask one history at one time.
func TestAtOneTime(t *testing.T) {
	p := of(t, busy())
	var all sync.WaitGroup
	for range 8 {
		all.Go(func() {
			for range 20 {
				wantBusy(t, "at one time", p)
			}
		})
	}
	all.Wait()
}
