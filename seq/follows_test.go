package seq_test

import (
	"math/rand/v2"
	"slices"
	"testing"

	"pleach/api"
	"pleach/ark"
	"pleach/node"
	"pleach/past"
	"pleach/seq"
	"pleach/shelf"
)

// What P17.3 says, and how the calls hang together, is held against the package's own answers alone.

// tale is all that is told of a list.
type tale struct{ all, shown []api.Item }

// told tells that of a list.
func told(p *past.Past, key string) tale {
	return tale{all: seq.All(p, key), shown: seq.Items(p, key)}
}

// same tells whether two lists are the same.
func (x tale) same(y tale) bool {
	return slices.Equal(x.all, y.all) && slices.Equal(x.shown, y.shown)
}

// gone tells the items of a list that aren't shown.
func (x tale) gone() []api.Item {
	return slices.DeleteFunc(slices.Clone(x.all), func(i api.Item) bool { return slices.Contains(x.shown, i) })
}

// wantTale fails, if of a list something else is told.
func wantTale(t *testing.T, what string, p *past.Past, key string, want tale) {
	t.Helper()
	if got := told(p, key); !got.same(want) {
		t.Errorf("%s: list %q: %s of %s; want %s of %s", what, key, showItems(got.shown), showItems(got.all), showItems(want.shown), showItems(want.all))
	}
	if slices.Contains(seq.Keys(p), key) != (len(want.shown) > 0) {
		t.Errorf("%s: list %q: Keys: %q", what, key, seq.Keys(p))
	}
}

// wantSame fails, if of two histories something else is told of a list.
func wantSame(t *testing.T, what string, p, q *past.Past) {
	t.Helper()
	for _, key := range append(names(), "none") {
		wantTale(t, what, p, key, told(q, key))
		for _, x := range append(seq.All(q, key), api.Item{}) {
			one, e := seq.Behind(p, key, x.ID)
			two, _ := seq.Behind(q, key, x.ID)
			if e != api.OK || !slices.Equal(one, two) {
				t.Errorf("%s: Behind(%q, %s): %s, %d; %s", what, key, showItems([]api.Item{x}), showItems(one), e, showItems(two))
			}
		}
	}
	if x, y := seq.Keys(p), seq.Keys(q); !slices.Equal(x, y) {
		t.Errorf("%s: Keys: %q; %q", what, x, y)
	}
}

// within tells whether the items of one list stand in another one, in the same order.
func within(l, more []api.Item) bool {
	for _, x := range more {
		if len(l) > 0 && l[0] == x {
			l = l[1:]
		}
	}
	return len(l) == 0
}

// wantGrown fails, if between a history and one that has all of it items have changed their places, or something that is gone is shown again.
func wantGrown(t *testing.T, what string, p, more *past.Past) {
	t.Helper()
	for _, key := range names() {
		x, y := told(p, key), told(more, key)
		if !within(x.all, y.all) {
			t.Errorf("%s: list %q: %s, and then %s", what, key, showItems(x.all), showItems(y.all))
		}
		for _, i := range x.gone() {
			if slices.Contains(y.shown, i) {
				t.Errorf("%s: list %q: shown again: %s", what, key, showItems([]api.Item{i}))
			}
		}
	}
}

// P17.3: of two items the one that stands ahead does so in every history that has all of it, and what is gone is gone there; also of what it was at earlier heads.
func TestStandStill(t *testing.T) {
	r := chance()
	for range 250 {
		l := graph(r, r.IntN(20))
		more := grown(r, l, 1+r.IntN(20))
		p, q := of(t, mixed(r, l)), of(t, mixed(r, more))
		wantGrown(t, "grown", p, q)
		heads := some(r, more)
		earlier := at(t, q, heads)
		wantGrown(t, "earlier", earlier, q)
		wantGrown(t, "earlier than that", at(t, earlier, heads[:len(heads)/2]), earlier)
		if t.Failed() {
			t.Fatal(showAll(more))
		}
	}
}

// P17.3: so it is transaction by transaction, in whatever order they come, parents ahead.
func TestStandStillAtEachStep(t *testing.T) {
	r := chance()
	for range 40 {
		l, came := graph(r, 15), []api.Entry{}
		for len(came) < len(l) {
			x := any1(r, l...)
			if in(came, x.ID) || slices.ContainsFunc(x.Node.Parents, func(h api.Hash) bool { return !in(came, h) }) {
				continue
			}
			wantGrown(t, "one more", of(t, came), of(t, append(came, x)))
			came = append(came, x)
		}
		if t.Failed() {
			t.Fatal(showAll(came))
		}
	}
}

// put tells a list with an item right behind that of a name, or first of all; where that isn't in the list, the list as it is.
func put(l []api.Item, at api.Ident, x api.Item) []api.Item {
	place := slices.IndexFunc(l, func(i api.Item) bool { return i.ID == at }) + 1
	if place == 0 && at != (api.Ident{}) {
		return l
	}
	return slices.Insert(slices.Clone(l), place, x)
}

// somewhere tells the beginning of a list, or the name of one of its items.
func somewhere(r *rand.Rand, l []api.Item) api.Ident {
	return any1(r, append(l, api.Item{})...).ID
}

// P17.3: who has seen all of a history, and has one insert of a key, lays its item right behind the one that it names, gone or not, or first of all; all else stays.
func TestRightBehind(t *testing.T) {
	r := chance()
	for range 400 {
		l := graph(r, r.IntN(25))
		p, key, h := of(t, l), someKey(r), any1(r, api.Hash{}, number(5000))
		before := told(p, key)
		to := somewhere(r, before.all)
		x := api.Item{ID: api.Ident{Node: h, Op: 1}, Text: "new"}
		q := of(t, mixed(r, append(l, behind(h, l, headsOf(l), under(key, ins("new", to))))))
		if got := seq.All(q, key); !slices.Equal(got, put(before.all, to, x)) {
			t.Errorf("All(%q): %s, and then %s", key, showItems(before.all), showItems(got))
		}
		if got := slices.DeleteFunc(seq.Items(q, key), func(i api.Item) bool { return i == x }); !slices.Equal(got, before.shown) {
			t.Errorf("Items(%q): %s, and then %s", key, showItems(before.shown), showItems(got))
		}
		if got, _ := seq.Behind(q, key, to); len(got) == 0 || got[0] != x {
			t.Errorf("Behind(%q): %s", key, showItems(got))
		}
		if t.Failed() {
			t.Fatal(showAll(l))
		}
	}
}

// W8: behind an item that is shown, or at the beginning, it is shown right behind that one, or first; the rest as it was.
func TestShownRightBehind(t *testing.T) {
	r := chance()
	for range 300 {
		l := graph(r, r.IntN(25))
		p, key := of(t, l), someKey(r)
		before := told(p, key)
		to := somewhere(r, before.shown)
		x := api.Item{ID: api.Ident{Node: number(5000), Op: 1}, Text: "new"}
		q := of(t, mixed(r, append(l, behind(number(5000), l, headsOf(l), under(key, ins("new", to))))))
		wantTale(t, "shown", q, key, tale{all: put(before.all, to, x), shown: put(before.shown, to, x)})
		if t.Failed() {
			t.Fatal(showAll(l))
		}
	}
}

// P17.3: also where that transaction deletes items of the key, that one too, and does other things.
func TestRightBehindAmongOthers(t *testing.T) {
	r := chance()
	for range 300 {
		l := graph(r, r.IntN(25))
		p, key := of(t, l), someKey(r)
		before := told(p, key)
		to := somewhere(r, before.all)
		ops := []api.Op{under("other", ins("o")), {Kind: api.OpWipe, Key: key}, under(key, ins("new", to))}
		left := before.shown
		for range r.IntN(4) {
			if from := somewhere(r, before.all); from != (api.Ident{}) {
				ops = append(ops, under(key, del(from)))
				left = slices.DeleteFunc(slices.Clone(left), func(i api.Item) bool { return i.ID == from })
			}
		}
		x := api.Item{ID: api.Ident{Node: number(5000), Op: 3}, Text: "new"}
		q := of(t, mixed(r, append(l, behind(number(5000), l, headsOf(l), append(ops, under("other", ins("p", own(1))))...))))
		all := put(before.all, to, x)
		shown := slices.DeleteFunc(slices.Clone(all), func(i api.Item) bool { return i != x && !slices.Contains(left, i) })
		wantTale(t, "among others", q, key, tale{all: all, shown: shown})
		wantTexts(t, "another key", q, "other", "op", "op")
		if t.Failed() {
			t.Fatal(showAll(l))
		}
	}
}

// P17.1, P17.3: a delete by one that has seen all takes away that item alone; by one that has not seen it, none.
func TestTakenAway(t *testing.T) {
	r := chance()
	for range 300 {
		l := graph(r, 1+r.IntN(25))
		p, key := of(t, l), someKey(r)
		before := told(p, key)
		from := somewhere(r, before.all)
		if from == (api.Ident{}) {
			continue
		}
		parents := any1(r, headsOf(l), some(r, l))
		q := of(t, mixed(r, append(l, behind(number(5000), l, parents, under(key, del(from))))))
		left := slices.Clone(before.shown)
		if in(upTo(l, parents), from.Node) {
			left = slices.DeleteFunc(left, func(i api.Item) bool { return i.ID == from })
		}
		wantTale(t, "deleted", q, key, tale{all: before.all, shown: left})
		if t.Failed() {
			t.Fatal(showAll(l))
		}
	}
}

// down tells a list by what Behind tells of each item, from the beginning on.
func down(p *past.Past, key string, at api.Ident) []api.Item {
	out := []api.Item{}
	l, _ := seq.Behind(p, key, at)
	for _, x := range l {
		out = append(append(out, x), down(p, key, x.ID)...)
	}
	return out
}

// P17.1, P17.2: Items are of All, in its order; Keys are those with Items; All is what Behind tells of each, from the beginning on.
func TestOneTale(t *testing.T) {
	r := chance()
	for range 150 {
		l := graph(r, r.IntN(25))
		whole := of(t, mixed(r, l))
		for _, p := range []*past.Past{whole, at(t, whole, some(r, l))} {
			keys := seq.Keys(p)
			if !slices.IsSorted(keys) || len(slices.Compact(slices.Clone(keys))) != len(keys) {
				t.Errorf("Keys: %q", keys)
			}
			for _, key := range append(names(), "none") {
				x := told(p, key)
				if slices.Contains(keys, key) != (len(x.shown) > 0) || !within(x.shown, x.all) {
					t.Errorf("list %q: %s of %s; Keys: %q", key, showItems(x.shown), showItems(x.all), keys)
				}
				if got := down(p, key, api.Ident{}); !slices.Equal(got, x.all) {
					t.Errorf("list %q: %s; by Behind: %s", key, showItems(x.all), showItems(got))
				}
			}
		}
		if t.Failed() {
			t.Fatal(showAll(l))
		}
	}
}

// only tells the entries of a list with something that has nothing to do with lists in the place of each operation that isn't so: so the others keep their numbers.
func only(l []api.Entry, is func(api.Ident, api.Op) bool) []api.Entry {
	l = slices.Clone(l)
	for i, x := range l {
		ops := slices.Clone(x.Node.Ops)
		for k, o := range ops {
			if !is(api.Ident{Node: x.ID, Op: k + 1}, o) {
				ops[k] = api.Op{Kind: api.OpClear, Key: "k"}
			}
		}
		l[i].Node.Ops = ops
	}
	return l
}

// ofLists tells whether an operation is of a list.
func ofLists(o api.Op) bool { return !slices.Contains(otherKinds(), o.Kind) }

// P17.1: without the operations of other keys and of other kinds, the same is told of a list; without its own it has no items, and of the others the same is told.
func TestOthersChangeNothing(t *testing.T) {
	r := chance()
	for range 150 {
		l := graph(r, r.IntN(25))
		p, key := of(t, l), someKey(r)
		own := func(_ api.Ident, o api.Op) bool { return o.Key == key && ofLists(o) }
		alone := of(t, only(l, own))
		others := of(t, only(l, func(x api.Ident, o api.Op) bool { return !own(x, o) }))
		for _, name := range names() {
			if name == key {
				wantTale(t, "its own operations alone", alone, key, told(p, key))
				wantTale(t, "all but its own", others, key, tale{})
			} else {
				wantTale(t, "its own operations alone", alone, name, tale{})
				wantTale(t, "all but its own", others, name, told(p, name))
			}
		}
		wantSame(t, "without other kinds", of(t, only(l, func(_ api.Ident, o api.Op) bool { return ofLists(o) })), p)
		if t.Failed() {
			t.Fatal(showAll(l))
		}
	}
}

// P17.1: inserts that are no items, and deletes that name none, have no effect: without them the same is told.
func TestWithoutEffect(t *testing.T) {
	r := chance()
	for range 150 {
		l := graph(r, r.IntN(25))
		p := of(t, l)
		items := map[string][]api.Ident{}
		for _, key := range names() {
			for _, x := range seq.All(p, key) {
				items[key] = append(items[key], x.ID)
			}
		}
		counts := func(x api.Ident, o api.Op) bool {
			if o.At.Node == (api.Hash{}) {
				o.At.Node = x.Node
			}
			return o.Kind == api.OpInsert && slices.Contains(items[o.Key], x) || o.Kind == api.OpDelete && slices.Contains(items[o.Key], o.At)
		}
		wantSame(t, "without what has no effect", of(t, only(l, counts)), p)
		if t.Failed() {
			t.Fatal(showAll(l))
		}
	}
}

// P17.1: a transaction that does nothing changes nothing, whatever it has seen.
func TestIdleChangesNothing(t *testing.T) {
	r := chance()
	for range 80 {
		l := graph(r, r.IntN(25))
		idle := append(l, behind(number(any1(r, 5000, 6000)), l, any1(r, headsOf(l), some(r, l), nil)))
		wantSame(t, "one that does nothing", of(t, mixed(r, idle)), of(t, l))
	}
}

// P17.4: what is told hangs on the history alone: in whatever order its entries came, and whether more had come and it is what was there at earlier heads.
func TestHowItCame(t *testing.T) {
	r := chance()
	for range 100 {
		l := graph(r, r.IntN(20))
		p := of(t, l)
		for range 2 {
			wantSame(t, "in another order", of(t, mixed(r, l)), p)
		}
		more := of(t, mixed(r, grown(r, l, r.IntN(20))))
		wantSame(t, "at its heads", at(t, more, headsOf(l)), p)
		wantSame(t, "at all of it", at(t, at(t, more, more.Heads()), ids(l)), p)
		if t.Failed() {
			t.Fatal(showAll(l))
		}
	}
}

// ids tells the hashes of entries.
func ids(l []api.Entry) []api.Hash {
	out := []api.Hash{}
	for _, x := range l {
		out = append(out, x.ID)
	}
	return out
}

// woven tells the entries of a history by the hashes of their blocks, and the blocks.
func woven(t *testing.T, l []api.Entry) (named []api.Entry, blocks [][]byte) {
	t.Helper()
	hashes := map[api.Hash]api.Hash{}
	for _, x := range l {
		n, parents := x.Node, []api.Hash{}
		for _, h := range n.Parents {
			parents = append(parents, hashes[h])
		}
		n.Parents, n.Ops = rising(parents), slices.Clone(n.Ops)
		for i, o := range n.Ops {
			if h, is := hashes[o.At.Node]; is {
				n.Ops[i].At.Node = h
			}
		}
		n.Ops = append(n.Ops, api.Op{Kind: api.OpPut, Key: "mark", Text: string(x.ID[:])}) // so that no two have one block
		b, e := node.Encode(n)
		y, err := node.Entry(b)
		if e != api.OK || err != nil {
			t.Fatalf("%d, %v", e, err)
		}
		hashes[x.ID] = y.ID
		named, blocks = append(named, y), append(blocks, b)
	}
	return named, blocks
}

// P17.4: nor does it matter whether it came through a shelf, where some waited, through an ark, or as entries.
func TestThroughShelf(t *testing.T) {
	r := chance()
	for range 40 {
		l, blocks := woven(t, graph(r, r.IntN(20)))
		s, s2 := shelf.New(nil), shelf.New(nil)
		for _, b := range mixed(r, blocks) {
			if _, err := s.Take(b); err != nil {
				t.Fatal(err)
			}
		}
		if _, err := ark.Load(s2, ark.Pack(s)); err != nil {
			t.Fatal(err)
		}
		for what, p := range map[string]*past.Past{"entries": of(t, mixed(r, l)), "a shelf": s.Past(), "an ark": s2.Past()} {
			wantWords(t, what, p, l)
		}
	}
}
