package state_test

import (
	"math/rand/v2"
	"slices"
	"testing"

	"pleach/api"
	"pleach/ark"
	"pleach/counts"
	"pleach/node"
	"pleach/orset"
	"pleach/past"
	"pleach/reg"
	"pleach/seq"
	"pleach/shelf"
	"pleach/state"
)

// wantWords fails, if of a history, whose entries these are, something else is shown than the words say; it tells what they say.
func wantWords(t *testing.T, what string, p *past.Past, l []api.Entry) map[string]tale {
	t.Helper()
	all := tales(l)
	wantShown(t, what, state.Of(p), all)
	return all
}

// P18.1: of whatever history, in whatever order it is handed in, and as it was at whatever heads, is shown what the words say.
func TestWords(t *testing.T) {
	r := chance()
	several, sets, lists := 0, 0, 0
	for range 200 {
		l := graph(r, r.IntN(20))
		p := pastOf(t, mixed(r, l))
		k := wantWords(t, "all", p, l)["k"]
		several += min(1, len(k.register)/2)
		sets += min(1, len(k.set)/2)
		lists += min(1, len(k.list)/4)
		for range 2 {
			heads := some(r, l)
			wantWords(t, "at some of it", pastAt(t, p, heads), upTo(l, heads))
		}
		if t.Failed() {
			t.Fatal(showAll(l))
		}
	}
	if several < 50 || sets < 50 || lists < 50 {
		t.Errorf("too much alike: %d registers of several texts, %d sets of several, %d lists of some items", several, sets, lists)
	}
}

// P18.1: histories of many keys, of each of which few transactions speak.
func TestWordsManyKeys(t *testing.T) {
	r := chance()
	several, sets, lists := 0, 0, 0
	for range 12 {
		l := soil{r: r, keys: manyNames(150), most: 60}.grown(nil, 25)
		for _, x := range wantWords(t, "many keys", pastOf(t, mixed(r, l)), l) {
			several += min(1, len(x.register)/2)
			sets += min(1, len(x.set)/2)
			lists += min(1, len(x.list)/2)
		}
		heads := some(r, l)
		wantWords(t, "at some of it", pastAt(t, pastOf(t, l), heads), upTo(l, heads))
		if t.Failed() {
			t.FailNow()
		}
	}
	if several < 50 || sets < 50 || lists < 50 {
		t.Errorf("too much alike: %d registers of several texts, %d sets of several, %d lists of several items", several, sets, lists)
	}
}

// wantLayers fails, if a state tells something else of a history than the layers below, which tell it key by key.
func wantLayers(t *testing.T, what string, s *state.State, p *past.Past, keys []string) {
	t.Helper()
	for kind, want := range map[int][]string{api.CellRegister: reg.Keys(p), api.CellSet: orset.Keys(p), api.CellCounter: counts.Keys(p), api.CellList: seq.Keys(p)} {
		if got := s.Keys(kind); !slices.Equal(got, want) {
			t.Errorf("%s: Keys(%d): %q; want %q", what, kind, got, want)
		}
	}
	for _, key := range keys {
		wantTale(t, what, s, key, tale{register: reg.Read(p, key), set: orset.Members(p, key), count: counts.Value(p, key), list: seq.Items(p, key)})
	}
}

// P18.1: what is shown is what the layers below tell of that history, where keys are few, many, or both.
func TestLayersBelow(t *testing.T) {
	r := chance()
	for range 5 {
		for _, keys := range [][]string{names(), manyNames(50), manyNames(700), append(manyNames(500), slices.Repeat(names(), 30)...)} {
			l := soil{r: r, keys: keys, most: any1(r, 10, 100)}.grown(nil, 10+r.IntN(50))
			p := pastOf(t, mixed(r, l))
			asked := slices.Compact(slices.Sorted(slices.Values(append(keys, "none"))))
			wantLayers(t, "all", state.Of(p), p, asked)
			q := pastAt(t, p, some(r, l))
			wantLayers(t, "at some of it", state.Of(q), q, asked)
			if t.Failed() {
				t.FailNow()
			}
		}
	}
}

// wantReadBack fails, if Read of a state's cells tells something else than its calls, or more.
func wantReadBack(t *testing.T, what string, s *state.State) {
	t.Helper()
	for _, c := range s.Cells() {
		want := told{}
		switch c.Kind {
		case api.CellRegister:
			want.texts = s.Register(c.Key)
		case api.CellSet:
			want.texts = s.Members(c.Key)
		case api.CellCounter:
			want.n = s.Count(c.Key)
		case api.CellList:
			want.items = s.Items(c.Key)
		}
		if want.same(told{}) {
			t.Errorf("%s: nothing is told of %s", what, showCells([]api.Cell{c}))
		}
		wantRead(t, what, c, want)
	}
}

// P18.2: Read of each cell that a state has tells what the state tells.
func TestReadBack(t *testing.T) {
	r := chance()
	for range 150 {
		l := soil{r: r, keys: any1(r, names(), manyNames(60)), most: any1(r, 5, 30)}.grown(nil, r.IntN(25))
		p := pastOf(t, l)
		wantReadBack(t, "all", state.Of(p))
		wantReadBack(t, "at some of it", state.Of(pastAt(t, p, some(r, l))))
		if t.Failed() {
			t.Fatal(showAll(l))
		}
	}
}

// P18.4: histories of the same transactions, in whatever order these are told, and whether more had come and it is what was there at earlier heads, have the same cells.
func TestHowItCame(t *testing.T) {
	r := chance()
	for range 100 {
		ground := soil{r: r, keys: any1(r, names(), manyNames(80)), most: any1(r, 6, 40)}
		l := ground.grown(nil, r.IntN(20))
		want := state.Of(pastOf(t, l)).Cells()
		for range 3 {
			wantCells(t, "in another order", state.Of(pastOf(t, mixed(r, l))).Cells(), want...)
		}
		more := pastOf(t, mixed(r, ground.grown(l, r.IntN(20))))
		wantCells(t, "at its heads", state.Of(pastAt(t, more, headsOf(l))).Cells(), want...)
		wantCells(t, "at all of it", state.Of(pastAt(t, pastAt(t, more, more.Heads()), mixed(r, ids(l)))).Cells(), want...)
		if t.Failed() {
			t.Fatal(showAll(l))
		}
	}
}

// ids tells the hashes of entries.
func ids(l []api.Entry) []api.Hash {
	out := []api.Hash{}
	for _, x := range l {
		out = append(out, x.ID)
	}
	return out
}

// woven tells the entries of a history by the hashes of their blocks, and the blocks.
func woven(t *testing.T, l []api.Entry) (named []api.Entry, blocks [][]byte) {
	t.Helper()
	hashes := map[api.Hash]api.Hash{}
	for _, x := range l {
		n, parents := x.Node, []api.Hash{}
		for _, h := range n.Parents {
			parents = append(parents, hashes[h])
		}
		n.Parents, n.Ops = rising(parents), slices.Clone(n.Ops)
		for i, o := range n.Ops {
			if h, is := hashes[o.At.Node]; is && o.At.Node != (api.Hash{}) {
				n.Ops[i].At.Node = h
			}
		}
		n.Ops = append(n.Ops, put("mark", string(x.ID[:]))) // so that no two have one block
		b, e := node.Encode(n)
		y, err := node.Entry(b)
		if e != api.OK || err != nil {
			t.Fatalf("%d, %v", e, err)
		}
		hashes[x.ID] = y.ID
		named, blocks = append(named, y), append(blocks, b)
	}
	return named, blocks
}

// P18.4: nor does it matter whether a history came through a shelf, where some waited, through an ark, or as entries.
func TestThroughShelf(t *testing.T) {
	r := chance()
	for range 30 {
		l, blocks := woven(t, graph(r, r.IntN(20)))
		s, s2 := shelf.New(nil), shelf.New(nil)
		for _, b := range mixed(r, blocks) {
			if _, err := s.Take(b); err != nil {
				t.Fatal(err)
			}
		}
		if _, err := ark.Load(s2, ark.Pack(s)); err != nil {
			t.Fatal(err)
		}
		for what, p := range map[string]*past.Past{"entries": pastOf(t, mixed(r, l)), "a shelf": s.Past(), "an ark": s2.Past()} {
			wantWords(t, what, p, l)
		}
	}
}

// related tells two histories: the one grown out of the other, both out of a third one, or each for itself.
func related(r *rand.Rand) (a, b []api.Entry) {
	ground := soil{r: r, keys: any1(r, names(), manyNames(40)), most: any1(r, 4, 20)}
	root := ground.grown(nil, r.IntN(12))
	switch r.IntN(4) {
	case 0:
		return root, ground.grown(root, r.IntN(6))
	case 1:
		return ground.grown(root, r.IntN(6)), root
	case 2:
		return ground.grown(root, r.IntN(6)), ground.grown(root, r.IntN(6))
	}
	return root, ground.grown(nil, r.IntN(12))
}
