package reg_test

import (
	"maps"
	"slices"
	"testing"

	"pleach/api"
	"pleach/ark"
	"pleach/node"
	"pleach/past"
	"pleach/reg"
	"pleach/shelf"
)

// What P14.2 says follows is held against the package's own answers alone.

// told tells all that is told of a history.
func told(p *past.Past) map[string][]string {
	all := map[string][]string{}
	for _, key := range reg.Keys(p) {
		all[key] = reg.Read(p, key)
	}
	return all
}

// wantSame fails, if of two histories something else is told.
func wantSame(t *testing.T, what string, p, q *past.Past) {
	t.Helper()
	wantAll(t, what, p, told(q))
	if x, y := reg.Keys(p), reg.Keys(q); !slices.Equal(x, y) {
		t.Errorf("%s: Keys: %q; %q", what, x, y)
	}
}

// P14.2: one that has seen all, and puts a text or clears, leaves that text alone, or none, whatever it did of that key ahead of it, and of other keys and kinds behind it.
func TestLastWord(t *testing.T) {
	r := chance()
	for range 400 {
		l := graph(r, r.IntN(25))
		key, before := someKey(r), told(of(t, l))
		ops := []api.Op{}
		for range r.IntN(4) {
			ops = append(ops, any1(r, put(key, "ahead"), clean(key), fitted(api.Op{Kind: any1(r, otherKinds()...), Key: key}, "ahead", 1)))
		}
		last := any1(r, put(key, "last"), put(key, ""), clean(key))
		ops = append(ops, last)
		for range r.IntN(4) {
			ops = append(ops, fitted(api.Op{Kind: any1(r, otherKinds()...), Key: any1(r, key, "k", "new")}, "behind", 1))
		}
		all := append(l, behind(number(any1(r, 5000, 6000)), l, headsOf(l), ops...))
		want := maps.Clone(before)
		delete(want, key)
		if last.Kind == api.OpPut {
			want[key] = []string{last.Text}
		}
		wantAll(t, "one that has seen all", of(t, mixed(r, all)), want)
		if t.Failed() {
			t.Fatal(showAll(all))
		}
	}
}

// P14.2: where a later operation of it is of that key, that one decides.
func TestLaterWord(t *testing.T) {
	r := chance()
	for range 100 {
		l := graph(r, r.IntN(20))
		top := func(ops ...api.Op) *past.Past { return of(t, append(l, behind(number(5000), l, headsOf(l), ops...))) }
		wantRead(t, "put, then cleared", top(put("k", "x"), clean("k")), "k")
		wantRead(t, "cleared, then put", top(clean("k"), put("k", "x")), "k", "x")
		wantRead(t, "put twice", top(put("k", "x"), put("k", "y")), "k", "y")
	}
}

// only tells the entries of a list with those of their operations alone that are so.
func only(l []api.Entry, is func(api.Op) bool) []api.Entry {
	l = slices.Clone(l)
	for i, x := range l {
		ops := []api.Op{}
		for _, o := range x.Node.Ops {
			if is(o) {
				ops = append(ops, o)
			}
		}
		l[i].Node.Ops = ops
	}
	return l
}

// P14.2: without the operations of other keys and of other kinds, the same is told of a register; without its own nothing is, and of the others the same.
func TestOthersChangeNothing(t *testing.T) {
	r := chance()
	for range 200 {
		l := graph(r, r.IntN(25))
		p, key := of(t, l), someKey(r)
		own := func(o api.Op) bool { return o.Key == key && (o.Kind == api.OpPut || o.Kind == api.OpClear) }
		alone := of(t, only(l, own))
		wantAll(t, "its own operations alone", alone, holds(key, reg.Read(p, key)...))
		rest := told(p)
		delete(rest, key)
		wantAll(t, "all but its own", of(t, only(l, func(o api.Op) bool { return !own(o) })), rest)
		ofRegisters := func(o api.Op) bool { return o.Kind == api.OpPut || o.Kind == api.OpClear }
		wantSame(t, "without other kinds", of(t, only(l, ofRegisters)), p)
		if t.Failed() {
			t.Fatal(showAll(l))
		}
	}
}

// P14.2: a transaction that does nothing changes nothing, whatever it has seen.
func TestIdleChangesNothing(t *testing.T) {
	r := chance()
	for range 100 {
		l := graph(r, r.IntN(25))
		idle := append(l, behind(number(any1(r, 5000, 6000)), l, any1(r, headsOf(l), some(r, l), nil)))
		wantSame(t, "one that does nothing", of(t, mixed(r, idle)), of(t, l))
	}
}

// P14.2: what is told hangs on the history alone: in whatever order its entries came, and whether more had come and it is what was there at earlier heads.
func TestHowItCame(t *testing.T) {
	r := chance()
	for range 150 {
		l := graph(r, r.IntN(20))
		p := of(t, l)
		for range 3 {
			wantSame(t, "in another order", of(t, mixed(r, l)), p)
		}
		more := of(t, mixed(r, grown(r, l, r.IntN(20))))
		wantSame(t, "at its heads", at(t, more, headsOf(l)), p)
		wantSame(t, "at all of it", at(t, at(t, more, more.Heads()), ids(l)), p)
		if t.Failed() {
			t.Fatal(showAll(l))
		}
	}
}

// ids tells the hashes of entries.
func ids(l []api.Entry) []api.Hash {
	out := []api.Hash{}
	for _, x := range l {
		out = append(out, x.ID)
	}
	return out
}

// woven tells the entries of a history by the hashes of their blocks, and the blocks.
func woven(t *testing.T, l []api.Entry) (named []api.Entry, blocks [][]byte) {
	t.Helper()
	names := map[api.Hash]api.Hash{}
	for _, x := range l {
		n, parents := x.Node, []api.Hash{}
		for _, h := range n.Parents {
			parents = append(parents, names[h])
		}
		n.Parents = rising(parents)
		n.Ops = append([]api.Op{{Kind: api.OpAdd, Key: "mark", Text: string(x.ID[:])}}, n.Ops...) // so that no two have one block
		b, e := node.Encode(n)
		y, err := node.Entry(b)
		if e != api.OK || err != nil {
			t.Fatalf("%d, %v", e, err)
		}
		names[x.ID] = y.ID
		named, blocks = append(named, y), append(blocks, b)
	}
	return named, blocks
}

// P14.2: nor does it matter whether it came through a shelf, where some waited, through an ark, or as entries.
func TestThroughShelf(t *testing.T) {
	r := chance()
	for range 60 {
		l, blocks := woven(t, graph(r, r.IntN(20)))
		s, s2 := shelf.New(nil), shelf.New(nil)
		for _, b := range mixed(r, blocks) {
			if _, err := s.Take(b); err != nil {
				t.Fatal(err)
			}
		}
		if _, err := ark.Load(s2, ark.Pack(s)); err != nil {
			t.Fatal(err)
		}
		want := shown(l)
		wantAll(t, "entries", of(t, mixed(r, l)), want)
		wantAll(t, "a shelf", s.Past(), want)
		wantAll(t, "an ark", s2.Past(), want)
	}
}
