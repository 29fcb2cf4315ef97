package counts_test

import (
	"maps"
	"slices"
	"testing"

	"pleach/api"
	"pleach/ark"
	"pleach/counts"
	"pleach/node"
	"pleach/past"
	"pleach/shelf"
)

// What P16.2 and P16.3 say is held against the package's own answers alone.

// told tells all that is told of a history.
func told(p *past.Past) map[string]int64 {
	all := map[string]int64{}
	for _, key := range counts.Keys(p) {
		all[key] = counts.Value(p, key)
	}
	return all
}

// wantSame fails, if of two histories something else is told.
func wantSame(t *testing.T, what string, p, q *past.Past) {
	t.Helper()
	wantAll(t, what, p, told(q))
	if x, y := counts.Keys(p), counts.Keys(q); !slices.Equal(x, y) {
		t.Errorf("%s: Keys: %q; %q", what, x, y)
	}
}

// wantOneTale fails, if Value and Keys of a history tell unlike things, or something twice, or not rising.
func wantOneTale(t *testing.T, what string, p *past.Past) {
	t.Helper()
	keys := counts.Keys(p)
	if !slices.IsSorted(keys) || len(slices.Compact(slices.Clone(keys))) != len(keys) {
		t.Errorf("%s: Keys: %q", what, keys)
	}
	for _, key := range slices.Concat(keys, names(), []string{"none", "k\x00\x00"}) {
		if n := counts.Value(p, key); slices.Contains(keys, key) != (n != 0) {
			t.Errorf("%s: Keys: %q; Value(%q): %d", what, keys, key, n)
		}
	}
}

// P16.2: Keys are those whose Value is not 0, whatever the history is, and as it was at earlier heads.
func TestOneTale(t *testing.T) {
	r := chance()
	for range 250 {
		l := graph(r, r.IntN(25))
		p := of(t, mixed(r, l))
		wantOneTale(t, "the whole", p)
		for range 2 {
			wantOneTale(t, "earlier", at(t, p, some(r, l)))
		}
		if t.Failed() {
			t.Fatal(showAll(l))
		}
	}
}

// with tells what is told, if a counter comes to so much more.
func with(all map[string]int64, key string, n int64) map[string]int64 {
	return put(all, key, all[key]+n)
}

// put tells what is told, if a counter comes to that.
func put(all map[string]int64, key string, n int64) map[string]int64 {
	all = maps.Clone(all)
	all[key] = n
	if n == 0 {
		delete(all, key)
	}
	return all
}

// allN tells the sum of all N of a key.
func allN(l []api.Entry, key string) int64 {
	var n int64
	for _, x := range l {
		for _, o := range x.Node.Ops {
			if o.Kind == api.OpIncr && o.Key == key {
				n += o.N
			}
		}
	}
	return n
}

// P16.3: of a history without a zero of a key the Value is the sum of all its N, also at earlier heads, and whatever zeros of other keys there are.
func TestSumOfAll(t *testing.T) {
	r := chance()
	for range 300 {
		key := someKey(r)
		l := only(graph(r, r.IntN(25)), func(_ api.Entry, o api.Op) bool { return o.Kind != api.OpZero || o.Key != key })
		p := of(t, mixed(r, l))
		wantValue(t, "without a zero", p, key, allN(l, key))
		heads := some(r, l)
		wantValue(t, "without a zero, earlier", at(t, p, heads), key, allN(upTo(l, heads), key))
		if t.Failed() {
			t.Fatal(showAll(l))
		}
	}
}

// P16.3: one that has seen all, and has a zero as its last operation of a key, leaves 0 there, whatever it did ahead of it; all else stays.
func TestLastWord(t *testing.T) {
	r := chance()
	for range 300 {
		l := graph(r, r.IntN(25))
		key, n := someKey(r), someN(r)
		before := told(of(t, l))
		top := func(ops ...api.Op) *past.Past {
			return of(t, mixed(r, append(l, behind(any1(r, api.Hash{}, number(5000)), l, headsOf(l), ops...))))
		}
		wantAll(t, "zero", top(zero(key)), put(before, key, 0))
		wantAll(t, "counted and zero", top(incr(key, n), incr(key, 1), zero(key)), put(before, key, 0))
		wantAll(t, "zero, counted and zero", top(zero(key), incr(key, n), zero(key)), put(before, key, 0))
		wantAll(t, "another key behind", top(zero(key), incr("other", 3)), put(put(before, key, 0), "other", 3))
		wantAll(t, "zero and counted", top(zero(key), incr(key, n)), put(before, key, n))
		wantAll(t, "zero, counted twice", top(zero(key), incr(key, n), incr(key, 1)), put(before, key, n+1))
		if t.Failed() {
			t.Fatal(showAll(l))
		}
	}
}

// P16.1: what is counted is more than before by just that, whoever counts it, and whatever it has seen; all else stays.
func TestCountedIsMore(t *testing.T) {
	r := chance()
	for range 300 {
		l := graph(r, r.IntN(25))
		key, n, m := someKey(r), someN(r), someN(r)
		parents := any1(r, headsOf(l), some(r, l), nil)
		x := behind(any1(r, api.Hash{}, number(5000)), l, parents, incr(key, n), incr(key, m))
		wantAll(t, "counted", of(t, mixed(r, append(l, x))), with(told(of(t, l)), key, n+m))
		if t.Failed() {
			t.Fatal(showAll(append(l, x)))
		}
	}
}

// P16.1: a zero undoes just what it has seen: what it leaves is what there is without that.
func TestUndoesWhatItHasSeen(t *testing.T) {
	r := chance()
	for range 400 {
		l := graph(r, r.IntN(25))
		key := someKey(r)
		parents := any1(r, headsOf(l), some(r, l), some(r, l))
		known := upTo(l, parents)
		left := only(l, func(x api.Entry, o api.Op) bool {
			return o.Kind != api.OpIncr || o.Key != key || !in(known, x.ID)
		})
		x := behind(any1(r, api.Hash{}, number(5000)), l, parents, zero(key))
		wantSame(t, "without what it has seen", of(t, mixed(r, append(l, x))), of(t, left))
		if t.Failed() {
			t.Fatal(showAll(append(l, x)))
		}
	}
}

// only tells the entries of a list with those of their operations alone that are so.
func only(l []api.Entry, is func(api.Entry, api.Op) bool) []api.Entry {
	l = slices.Clone(l)
	for i, x := range l {
		ops := []api.Op{}
		for _, o := range x.Node.Ops {
			if is(x, o) {
				ops = append(ops, o)
			}
		}
		l[i].Node.Ops = ops
	}
	return l
}

// ofCounters tells whether an operation is of a counter.
func ofCounters(o api.Op) bool { return !slices.Contains(otherKinds(), o.Kind) }

// P16.3: without the operations of other keys and of other kinds, the same is told of a counter; without its own it is 0, and of the others the same is told.
func TestOthersChangeNothing(t *testing.T) {
	r := chance()
	for range 200 {
		l := graph(r, r.IntN(25))
		p, key := of(t, l), someKey(r)
		own := func(_ api.Entry, o api.Op) bool { return o.Key == key && ofCounters(o) }
		wantAll(t, "its own operations alone", of(t, only(l, own)), comes(key, counts.Value(p, key)))
		wantAll(t, "all but its own", of(t, only(l, func(x api.Entry, o api.Op) bool { return !own(x, o) })), put(told(p), key, 0))
		wantSame(t, "without other kinds", of(t, only(l, func(_ api.Entry, o api.Op) bool { return ofCounters(o) })), p)
		if t.Failed() {
			t.Fatal(showAll(l))
		}
	}
}

// P16.1: a transaction that does nothing changes nothing, whatever it has seen.
func TestIdleChangesNothing(t *testing.T) {
	r := chance()
	for range 100 {
		l := graph(r, r.IntN(25))
		idle := append(l, behind(number(any1(r, 5000, 6000)), l, any1(r, headsOf(l), some(r, l), nil)))
		wantSame(t, "one that does nothing", of(t, mixed(r, idle)), of(t, l))
	}
}

// P16.1: what is told hangs on the history alone: in whatever order its entries came, and whether more had come and it is what was there at earlier heads.
func TestHowItCame(t *testing.T) {
	r := chance()
	for range 150 {
		l := graph(r, r.IntN(20))
		p := of(t, l)
		for range 3 {
			wantSame(t, "in another order", of(t, mixed(r, l)), p)
		}
		more := of(t, mixed(r, grown(r, l, r.IntN(20))))
		wantSame(t, "at its heads", at(t, more, headsOf(l)), p)
		wantSame(t, "at all of it", at(t, at(t, more, more.Heads()), ids(l)), p)
		if t.Failed() {
			t.Fatal(showAll(l))
		}
	}
}

// ids tells the hashes of entries.
func ids(l []api.Entry) []api.Hash {
	out := []api.Hash{}
	for _, x := range l {
		out = append(out, x.ID)
	}
	return out
}

// woven tells the entries of a history by the hashes of their blocks, and the blocks.
func woven(t *testing.T, l []api.Entry) (named []api.Entry, blocks [][]byte) {
	t.Helper()
	names := map[api.Hash]api.Hash{}
	for _, x := range l {
		n, parents := x.Node, []api.Hash{}
		for _, h := range n.Parents {
			parents = append(parents, names[h])
		}
		n.Parents = rising(parents)
		n.Ops = append([]api.Op{{Kind: api.OpPut, Key: "mark", Text: string(x.ID[:])}}, n.Ops...) // so that no two have one block
		b, e := node.Encode(n)
		y, err := node.Entry(b)
		if e != api.OK || err != nil {
			t.Fatalf("%d, %v", e, err)
		}
		names[x.ID] = y.ID
		named, blocks = append(named, y), append(blocks, b)
	}
	return named, blocks
}

// P16.1: nor does it matter whether it came through a shelf, where some waited, through an ark, or as entries.
func TestThroughShelf(t *testing.T) {
	r := chance()
	for range 60 {
		l, blocks := woven(t, graph(r, r.IntN(20)))
		s, s2 := shelf.New(nil), shelf.New(nil)
		for _, b := range mixed(r, blocks) {
			if _, err := s.Take(b); err != nil {
				t.Fatal(err)
			}
		}
		if _, err := ark.Load(s2, ark.Pack(s)); err != nil {
			t.Fatal(err)
		}
		want := shown(l)
		wantAll(t, "entries", of(t, mixed(r, l)), want)
		wantAll(t, "a shelf", s.Past(), want)
		wantAll(t, "an ark", s2.Past(), want)
	}
}
