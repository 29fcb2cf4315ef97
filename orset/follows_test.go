package orset_test

import (
	"maps"
	"slices"
	"testing"

	"pleach/api"
	"pleach/ark"
	"pleach/node"
	"pleach/orset"
	"pleach/past"
	"pleach/shelf"
)

// What P15.2 and P15.3 say is held against the package's own answers alone.

// told tells all that is told of a history.
func told(p *past.Past) map[string][]string {
	all := map[string][]string{}
	for _, key := range orset.Keys(p) {
		all[key] = orset.Members(p, key)
	}
	return all
}

// wantSame fails, if of two histories something else is told.
func wantSame(t *testing.T, what string, p, q *past.Past) {
	t.Helper()
	wantAll(t, what, p, told(q))
	if x, y := orset.Keys(p), orset.Keys(q); !slices.Equal(x, y) {
		t.Errorf("%s: Keys: %q; %q", what, x, y)
	}
}

// wantOneTale fails, if Has, Members and Keys of a history tell unlike things, or something twice, or not rising.
func wantOneTale(t *testing.T, what string, p *past.Past) {
	t.Helper()
	keys := orset.Keys(p)
	if !slices.IsSorted(keys) || len(slices.Compact(slices.Clone(keys))) != len(keys) {
		t.Errorf("%s: Keys: %q", what, keys)
	}
	for _, key := range slices.Concat(keys, names(), []string{"none", "s\x00\x00"}) {
		members := orset.Members(p, key)
		if !slices.IsSorted(members) || len(slices.Compact(slices.Clone(members))) != len(members) {
			t.Errorf("%s: Members(%q): %q", what, key, members)
		}
		if slices.Contains(keys, key) != (len(members) > 0) {
			t.Errorf("%s: Keys: %q; Members(%q): %q", what, keys, key, members)
		}
		for _, text := range slices.Concat(members, texts(), names(), []string{"none"}) {
			if orset.Has(p, key, text) != slices.Contains(members, text) {
				t.Errorf("%s: Has(%q, %q) beside %q", what, key, text, members)
			}
		}
	}
}

// P15.2: Has is whether Members tells the text, and Keys are those of which Members tells something, whatever the history is, and as it was at earlier heads.
func TestOneTale(t *testing.T) {
	r := chance()
	for range 200 {
		l := graph(r, r.IntN(25))
		p := of(t, mixed(r, l))
		wantOneTale(t, "the whole", p)
		for range 2 {
			wantOneTale(t, "earlier", at(t, p, some(r, l)))
		}
		if t.Failed() {
			t.Fatal(showAll(l))
		}
	}
}

// with tells what is told, if a set has one text more.
func with(all map[string][]string, key, text string) map[string][]string {
	all = maps.Clone(all)
	l := append(slices.Clone(all[key]), text)
	slices.Sort(l)
	all[key] = slices.Compact(l)
	return all
}

// without tells what is told, if a set hasn't a text.
func without(all map[string][]string, key, text string) map[string][]string {
	all = maps.Clone(all)
	all[key] = slices.DeleteFunc(slices.Clone(all[key]), func(x string) bool { return x == text })
	if len(all[key]) == 0 {
		delete(all, key)
	}
	return all
}

// P15.3: an add that nobody has seen makes its text be there, whatever it has seen itself, whatever its transaction did ahead of it, and wherever it stands in the one order; all else stays.
func TestAddsWin(t *testing.T) {
	r := chance()
	for range 400 {
		l := graph(r, r.IntN(25))
		key, text := someKey(r), someText(r)
		h := any1(r, api.Hash{}, number(5000))
		parents := any1(r, headsOf(l), some(r, l), nil)
		p := of(t, l)
		x := behind(h, l, parents, add(key, text))
		wantAll(t, "added", of(t, mixed(r, append(l, x))), with(told(p), key, text))
		x = behind(h, l, parents, remove(key, text), add(key, text))
		wantAll(t, "removed and added", of(t, mixed(r, append(l, x))), with(told(p), key, text))
		x = behind(h, l, parents, wipe(key), add(key, text))
		q := of(t, mixed(r, append(l, x)))
		if !orset.Has(q, key, text) {
			t.Errorf("wiped and added: %q isn't there", text)
		}
		if t.Failed() {
			t.Fatal(showAll(append(l, x)))
		}
	}
}

// P15.3: a remove or wipe undoes just the adds that it has seen: what it leaves is what there is without those adds.
func TestUndoesWhatItHasSeen(t *testing.T) {
	r := chance()
	for range 400 {
		l := graph(r, r.IntN(25))
		key, text := someKey(r), someText(r)
		parents := any1(r, headsOf(l), some(r, l), some(r, l))
		known := upTo(l, parents)
		for _, o := range []api.Op{remove(key, text), wipe(key)} {
			left := only(l, func(x api.Entry, a api.Op) bool {
				hit := a.Kind == api.OpAdd && a.Key == key && (o.Kind == api.OpWipe || a.Text == text)
				return !hit || !in(known, x.ID)
			})
			x := behind(any1(r, api.Hash{}, number(5000)), l, parents, o)
			wantSame(t, "without what it has seen", of(t, mixed(r, append(l, x))), of(t, left))
			if t.Failed() {
				t.Fatal(showAll(append(l, x)))
			}
		}
	}
}

// P15.3: one that has seen all, and removes or wipes, leaves nothing of that text, or key, and all else.
func TestLastWord(t *testing.T) {
	r := chance()
	for range 200 {
		l := graph(r, r.IntN(25))
		key, text := someKey(r), someText(r)
		before := told(of(t, l))
		top := func(ops ...api.Op) *past.Past {
			return of(t, mixed(r, append(l, behind(number(5000), l, headsOf(l), ops...))))
		}
		wantAll(t, "removed", top(remove(key, text)), without(before, key, text))
		wantAll(t, "added and removed", top(add(key, text), remove(key, text)), without(before, key, text))
		wiped := maps.Clone(before)
		delete(wiped, key)
		wantAll(t, "wiped", top(wipe(key)), wiped)
		wantAll(t, "added and wiped", top(add(key, text), wipe(key)), wiped)
		wantAll(t, "wiped and added", top(wipe(key), add(key, text)), with(wiped, key, text))
		if t.Failed() {
			t.Fatal(showAll(l))
		}
	}
}

// only tells the entries of a list with those of their operations alone that are so.
func only(l []api.Entry, is func(api.Entry, api.Op) bool) []api.Entry {
	l = slices.Clone(l)
	for i, x := range l {
		ops := []api.Op{}
		for _, o := range x.Node.Ops {
			if is(x, o) {
				ops = append(ops, o)
			}
		}
		l[i].Node.Ops = ops
	}
	return l
}

// ofSets tells whether an operation is of a set.
func ofSets(o api.Op) bool { return !slices.Contains(otherKinds(), o.Kind) }

// P15.1: without the operations of other keys and of other kinds, the same is told of a set; without its own nothing is, and of the others the same.
func TestOthersChangeNothing(t *testing.T) {
	r := chance()
	for range 200 {
		l := graph(r, r.IntN(25))
		p, key := of(t, l), someKey(r)
		own := func(_ api.Entry, o api.Op) bool { return o.Key == key && ofSets(o) }
		wantAll(t, "its own operations alone", of(t, only(l, own)), has(key, orset.Members(p, key)...))
		rest := told(p)
		delete(rest, key)
		wantAll(t, "all but its own", of(t, only(l, func(x api.Entry, o api.Op) bool { return !own(x, o) })), rest)
		wantSame(t, "without other kinds", of(t, only(l, func(_ api.Entry, o api.Op) bool { return ofSets(o) })), p)
		if t.Failed() {
			t.Fatal(showAll(l))
		}
	}
}

// P15.1: a transaction that does nothing changes nothing, whatever it has seen.
func TestIdleChangesNothing(t *testing.T) {
	r := chance()
	for range 100 {
		l := graph(r, r.IntN(25))
		idle := append(l, behind(number(any1(r, 5000, 6000)), l, any1(r, headsOf(l), some(r, l), nil)))
		wantSame(t, "one that does nothing", of(t, mixed(r, idle)), of(t, l))
	}
}

// P15.1: what is told hangs on the history alone: in whatever order its entries came, and whether more had come and it is what was there at earlier heads.
func TestHowItCame(t *testing.T) {
	r := chance()
	for range 150 {
		l := graph(r, r.IntN(20))
		p := of(t, l)
		for range 3 {
			wantSame(t, "in another order", of(t, mixed(r, l)), p)
		}
		more := of(t, mixed(r, grown(r, l, r.IntN(20))))
		wantSame(t, "at its heads", at(t, more, headsOf(l)), p)
		wantSame(t, "at all of it", at(t, at(t, more, more.Heads()), ids(l)), p)
		if t.Failed() {
			t.Fatal(showAll(l))
		}
	}
}

// ids tells the hashes of entries.
func ids(l []api.Entry) []api.Hash {
	out := []api.Hash{}
	for _, x := range l {
		out = append(out, x.ID)
	}
	return out
}

// woven tells the entries of a history by the hashes of their blocks, and the blocks.
func woven(t *testing.T, l []api.Entry) (named []api.Entry, blocks [][]byte) {
	t.Helper()
	names := map[api.Hash]api.Hash{}
	for _, x := range l {
		n, parents := x.Node, []api.Hash{}
		for _, h := range n.Parents {
			parents = append(parents, names[h])
		}
		n.Parents = rising(parents)
		n.Ops = append([]api.Op{{Kind: api.OpPut, Key: "mark", Text: string(x.ID[:])}}, n.Ops...) // so that no two have one block
		b, e := node.Encode(n)
		y, err := node.Entry(b)
		if e != api.OK || err != nil {
			t.Fatalf("%d, %v", e, err)
		}
		names[x.ID] = y.ID
		named, blocks = append(named, y), append(blocks, b)
	}
	return named, blocks
}

// P15.1: nor does it matter whether it came through a shelf, where some waited, through an ark, or as entries.
func TestThroughShelf(t *testing.T) {
	r := chance()
	for range 60 {
		l, blocks := woven(t, graph(r, r.IntN(20)))
		s, s2 := shelf.New(nil), shelf.New(nil)
		for _, b := range mixed(r, blocks) {
			if _, err := s.Take(b); err != nil {
				t.Fatal(err)
			}
		}
		if _, err := ark.Load(s2, ark.Pack(s)); err != nil {
			t.Fatal(err)
		}
		want := shown(l)
		wantAll(t, "entries", of(t, mixed(r, l)), want)
		wantAll(t, "a shelf", s.Past(), want)
		wantAll(t, "an ark", s2.Past(), want)
	}
}
