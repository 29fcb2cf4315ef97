package why_test

import (
	"fmt"
	"math/rand/v2"
	"slices"
	"testing"

	"pleach/api"
	"pleach/ark"
	"pleach/node"
	"pleach/past"
	"pleach/shelf"
	"pleach/why"
)

// keys are those of which histories speak, each once, and some of which they don't.
func keys() []string {
	l := append(names(), "none", "k\x00\x00", "l")
	slices.Sort(l)
	return slices.Compact(l)
}

// wantTale fails, if of a cell of a history, whose entries these are, something else is told than the words say; it tells what they say.
func wantTale(t *testing.T, what string, p *past.Past, l []api.Entry, kind int, key string) tale {
	t.Helper()
	what = fmt.Sprintf("%s, %d %q", what, kind, key)
	w := taleOf(l, kind, key)
	wantMarks(t, what+": Makers", why.Makers(p, kind, key), w.makers)
	wantMarks(t, what+": Undone", why.Undone(p, kind, key), w.undone)
	if got, want := why.Authors(p, kind, key), authors(w.makers); !slices.Equal(got, want) {
		t.Errorf("%s: Authors: %d; want %d", what, got, want)
	}
	return w
}

// wantWords does so for all cells that there may be, and for the kinds that are none.
func wantWords(t *testing.T, what string, p *past.Past, l []api.Entry) {
	t.Helper()
	for _, key := range keys() {
		for _, kind := range slices.Concat(kinds(), noKinds()) {
			wantTale(t, what, p, l, kind, key)
		}
	}
}

// P25.1: of whatever history, in whatever order it is handed in, and as it was at whatever heads, is told what the words say.
func TestWords(t *testing.T) {
	r := chance()
	several, byMany, within := map[int]int{}, map[int]int{}, map[int]int{}
	for range 150 {
		l := graph(r, r.IntN(20))
		p := pastOf(t, mixed(r, l))
		wantWords(t, "all", p, l)
		heads := some(r, l)
		wantWords(t, "at some of it", pastAt(t, p, heads), upTo(l, heads))
		if t.Failed() {
			t.Fatal(showAll(l))
		}
		for _, kind := range kinds() {
			several[kind] += min(1, len(why.Authors(p, kind, "k"))/2)
			for _, m := range why.Undone(p, kind, "k") {
				byMany[kind] += min(1, len(m.By)/2)
				within[kind] += min(1, len(slices.DeleteFunc(m.By, func(b api.Ident) bool { return b.Node != m.Of.Node })))
			}
		}
	}
	for _, kind := range kinds() {
		if several[kind] < 20 || byMany[kind] < 20 || within[kind] < 20 {
			t.Errorf("too much alike: of the kind %d, %d have several authors; %d are undone by several, %d within a transaction", kind, several[kind], byMany[kind], within[kind])
		}
	}
}

// P25.1: histories whose transactions have many operations of one key each.
func TestWordsOfOneKey(t *testing.T) {
	r := chance()
	for range 40 {
		l := soil{r: r, keys: []string{"k"}, most: 40}.grown(nil, r.IntN(12))
		p := pastOf(t, mixed(r, l))
		heads := some(r, l)
		for _, kind := range kinds() {
			wantTale(t, "all", p, l, kind, "k")
			wantTale(t, "at some of it", pastAt(t, p, heads), upTo(l, heads), kind, "k")
		}
		if t.Failed() {
			t.Fatal(showAll(l))
		}
	}
}

// wantHas fails, if a history hasn't just these entries, or tells anything else of them than they are.
func wantHas(t *testing.T, what string, p *past.Past, l []api.Entry) {
	t.Helper()
	want := oneOrder(l)
	if p.Len() != len(want) {
		t.Fatalf("%s: %d entries", what, p.Len())
	}
	for i, x := range p.All() {
		if x.ID != want[i].ID || !node.Same(x.Node, want[i].Node) {
			t.Errorf("%s: entry %d: %s", what, i, showAll([]api.Entry{x}))
		}
		for j, y := range want {
			if p.Sees(j, i) != slices.Contains(seen(want, x.ID), y.ID) {
				t.Errorf("%s: Sees(%d, %d)", what, j, i)
			}
		}
	}
}

// P25.2: of each entry of whatever history Alone is a history of it and of all that it has seen; of no other hash there is one.
func TestAloneWords(t *testing.T) {
	r := chance()
	for range 60 {
		l := graph(r, r.IntN(20))
		p := pastOf(t, mixed(r, l))
		for _, x := range l {
			q, e := why.Alone(p, x.ID)
			if e != api.OK || q == nil {
				t.Fatalf("Alone: %d", e)
			}
			wantHas(t, "alone", q, upTo(l, []api.Hash{x.ID}))
		}
		for range 5 {
			h := number(r.IntN(1200))
			if q, e := why.Alone(p, h); (e == api.OK) != in(l, h) || (q != nil) != in(l, h) || e != api.OK && e != api.ErrAbsent {
				t.Errorf("Alone(%x): %d", h[:3], e)
			}
		}
		wantHas(t, "the whole", p, l)
		if t.Failed() {
			t.Fatal(showAll(l))
		}
	}
}

// wantLacking fails, if at some heads something else is lacking than the words say; it tells how much is.
func wantLacking(t *testing.T, p *past.Past, l []api.Entry, heads []api.Hash, kind int, key string) int {
	t.Helper()
	got, e := why.Lacks(p, heads, kind, key)
	want, e2 := []why.Mark{}, api.OK
	switch {
	case !slices.Contains(kinds(), kind):
		e2 = api.ErrKind
	case slices.ContainsFunc(heads, func(h api.Hash) bool { return !in(l, h) }):
		e2 = api.ErrAbsent
	default:
		want = lacking(taleOf(l, kind, key).makers, upTo(l, heads))
	}
	what := fmt.Sprintf("Lacks at %x, %d %q", heads, kind, key)
	wantMarks(t, what, got, want)
	if e != e2 {
		t.Errorf("%s: %d; want %d", what, e, e2)
	}
	return len(want)
}

// P25.3: at whatever heads, some of them twice or no entry's, Lacks tells what the words say.
func TestLacksWords(t *testing.T) {
	r := chance()
	much, little := 0, 0
	for range 300 {
		l := graph(r, r.IntN(20))
		p := pastOf(t, mixed(r, l))
		heads := some(r, l)
		if r.IntN(4) == 0 {
			heads = mixed(r, append(heads, number(r.IntN(1200))))
		}
		for _, kind := range slices.Concat(kinds(), noKinds()) {
			n := wantLacking(t, p, l, heads, kind, "k")
			wantLacking(t, p, l, heads, kind, any1(r, names()...))
			much += min(1, n/2)
			little += min(1, len(why.Makers(p, kind, "k"))-n)
		}
		if t.Failed() {
			t.Fatal(showAll(l))
		}
	}
	if much < 100 || little < 100 {
		t.Errorf("too much alike: of %d several lack, of %d not all", much, little)
	}
}

// ids tells the hashes of entries.
func ids(l []api.Entry) []api.Hash {
	out := []api.Hash{}
	for _, x := range l {
		out = append(out, x.ID)
	}
	return out
}

// wantAlike fails, if of two histories something else is told.
func wantAlike(t *testing.T, what string, p, q *past.Past, heads []api.Hash) {
	t.Helper()
	for _, kind := range kinds() {
		for _, key := range keys() {
			wantMarks(t, what+": Makers", why.Makers(p, kind, key), why.Makers(q, kind, key))
			wantMarks(t, what+": Undone", why.Undone(p, kind, key), why.Undone(q, kind, key))
			if got, want := why.Authors(p, kind, key), why.Authors(q, kind, key); !slices.Equal(got, want) {
				t.Errorf("%s: Authors: %d; want %d", what, got, want)
			}
			one, _ := why.Lacks(p, heads, kind, key)
			other, _ := why.Lacks(q, heads, kind, key)
			wantMarks(t, what+": Lacks", one, other)
		}
	}
}

// P25.6: histories of the same transactions, in whatever order these are told, and whether more had come and it is what was there at earlier heads, are told the same of.
func TestHowItCame(t *testing.T) {
	r := chance()
	for range 60 {
		ground := soil{r: r, keys: names(), most: any1(r, 4, 8, 30)}
		l := ground.grown(nil, 1+r.IntN(20))
		p := pastOf(t, l)
		heads := some(r, l)
		for range 2 {
			wantAlike(t, "in another order", pastOf(t, mixed(r, l)), p, heads)
		}
		more := pastOf(t, mixed(r, ground.grown(l, r.IntN(20))))
		wantAlike(t, "at its heads", pastAt(t, more, p.Heads()), p, heads)
		wantAlike(t, "at all of it", pastAt(t, pastAt(t, more, more.Heads()), mixed(r, ids(l))), p, heads)
		h := any1(r, ids(l)...)
		one, _ := why.Alone(more, h)
		other, _ := why.Alone(p, h)
		wantAlike(t, "one alone", one, other, []api.Hash{h})
		if t.Failed() {
			t.Fatal(showAll(l))
		}
	}
}

// woven tells the entries of a history by the hashes of their blocks, and the blocks.
func woven(t *testing.T, l []api.Entry) (named []api.Entry, blocks [][]byte) {
	t.Helper()
	hashes := map[api.Hash]api.Hash{}
	for _, x := range l {
		n, parents := x.Node, []api.Hash{}
		for _, h := range n.Parents {
			parents = append(parents, hashes[h])
		}
		n.Parents, n.Ops = rising(parents), slices.Clone(n.Ops)
		for i, o := range n.Ops {
			if h, is := hashes[o.At.Node]; is && o.At.Node != (api.Hash{}) {
				n.Ops[i].At.Node = h
			}
		}
		n.Ops = append(n.Ops, put("mark", string(x.ID[:]))) // so that no two have one block
		b, e := node.Encode(n)
		y, err := node.Entry(b)
		if e != api.OK || err != nil {
			t.Fatalf("%d, %v", e, err)
		}
		hashes[x.ID] = y.ID
		named, blocks = append(named, y), append(blocks, b)
	}
	return named, blocks
}

// taken tells a shelf that took blocks, in whatever order.
func taken(t *testing.T, r *rand.Rand, blocks [][]byte) *shelf.Shelf {
	t.Helper()
	s := shelf.New(nil)
	for _, b := range mixed(r, blocks) {
		if _, err := s.Take(b); err != nil {
			t.Fatal(err)
		}
	}
	return s
}

// P25.6: nor does it matter whether a history came through a shelf, where some waited, through an ark, or as entries.
func TestThroughShelf(t *testing.T) {
	r := chance()
	for range 25 {
		l, blocks := woven(t, graph(r, r.IntN(20)))
		s, s2 := taken(t, r, blocks), shelf.New(nil)
		if _, err := ark.Load(s2, ark.Pack(s)); err != nil {
			t.Fatal(err)
		}
		for what, p := range map[string]*past.Past{"entries": pastOf(t, mixed(r, l)), "a shelf": s.Past(), "an ark": s2.Past()} {
			wantWords(t, what, p, l)
		}
		if t.Failed() {
			t.Fatal(showAll(l))
		}
	}
}
