package live_test

import (
	"math/rand/v2"
	"slices"
	"testing"

	"pleach/api"
	"pleach/ark"
	"pleach/live"
	"pleach/node"
	"pleach/shelf"
	"pleach/state"
)

// P24.2, P24.3, P24.5 (W10): random histories, each taken in several orders: behind each Take all that is shown is what the history of those taken shows, and Last is what has changed; in the end all orders show the same.
func TestWords(t *testing.T) {
	r := chance()
	changed, idle := 0, 0
	for range 60 {
		l := soil{r: r, keys: names(), most: any1(r, 3, 8)}.grown(nil, 1+r.IntN(16))
		var want picture
		for i, order := range orders(r, l) {
			v := live.New()
			for n, x := range order {
				if k := wantTaken(t, "taken", v, order[:n], x); k > 0 {
					changed += k
				} else {
					idle++
				}
				if t.Failed() {
					t.Fatal(showAll(order[:n+1]))
				}
			}
			if i == 0 {
				want = pictureOf(v)
			}
			wantCells(t, "in the end", v.Cells(), want.cells...)
			if !slices.Equal(v.Heads(), want.heads) || v.Len() != want.len {
				t.Errorf("Heads: %x, Len: %d; want %x, %d", v.Heads(), v.Len(), want.heads, want.len)
			}
		}
	}
	if changed < 3000 || idle < 200 {
		t.Errorf("too much alike: %d cells changed, %d changed nothing", changed, idle)
	}
}

// P24.2, P24.5: longer ones, of few keys and of many, in which many stand beside one another; they are looked at now and then.
func TestWordsLonger(t *testing.T) {
	r := chance()
	many := []string{}
	for i := range 200 {
		many = append(many, string(rune('a'+i%26))+string(rune('a'+i/26)))
	}
	for range 6 {
		for _, ground := range []soil{{r: r, keys: []string{"k"}, most: 6}, {r: r, keys: names(), most: 30}, {r: r, keys: many, most: 60}} {
			l := ground.grown(nil, 60)
			for _, order := range orders(r, l)[1:5] {
				v, cells := live.New(), []api.Cell{}
				for n, x := range order {
					takes(t, v, x, api.OK)
					cells = putIn(cells, v.Last())
					if n%13 == 12 {
						wantShown(t, "longer", v, order[:n+1])
						wantCells(t, "longer: all Lasts put in", cells, v.Cells()...)
					}
				}
				wantShown(t, "longer", v, l)
				wantCells(t, "longer: all Lasts put in", cells, v.Cells()...)
				if t.Failed() {
					t.FailNow()
				}
			}
		}
	}
}

// walk is one of several that were copied from one another, with what it has taken.
type walk struct {
	v     *live.Live
	taken []api.Entry
}

// P24.4: copies are made at any moment; each goes its own way, through a history of its own.
func TestCopies(t *testing.T) {
	r := chance()
	for range 12 {
		ground := soil{r: r, keys: names(), most: 5}
		l := ground.grown(nil, 20)
		all := []walk{{v: live.New()}}
		for range 50 {
			i := r.IntN(len(all))
			if len(all) < 6 && r.IntN(6) == 0 {
				all = append(all, walk{v: all[i].v.Copy(), taken: slices.Clone(all[i].taken)})
				i = len(all) - 1
				wantCells(t, "copied: Last", all[i].v.Last(), lastOf(t, all[i].taken)...)
			}
			all[i].step(t, r, l)
			for _, w := range all { // nobody sees what the others do
				wantCells(t, "copies", w.v.Cells(), stateOf(t, w.taken).Cells()...)
				wantCells(t, "copies: Last", w.v.Last(), lastOf(t, w.taken)...)
			}
			if t.Failed() {
				t.Fatal(showAll(l))
			}
		}
		for _, w := range all {
			wantShown(t, "in the end", w.v, w.taken)
		}
	}
}

// step takes another one of a history, or is refused one.
func (w *walk) step(t *testing.T, r *rand.Rand, l []api.Entry) {
	t.Helper()
	next := ready(l, w.taken)
	if len(next) == 0 || r.IntN(8) == 0 {
		x := any1(r, l...)
		switch {
		case in(w.taken, x.ID):
			takes(t, w.v, x, api.ErrState)
		case !in(next, x.ID):
			takes(t, w.v, x, api.ErrAbsent)
		}
		return
	}
	x := any1(r, next...)
	takes(t, w.v, x, api.OK)
	w.taken = append(w.taken, x)
}

// lastOf tells what the last one of those taken has changed.
func lastOf(t *testing.T, taken []api.Entry) []api.Cell {
	t.Helper()
	if len(taken) == 0 {
		return nil
	}
	return state.Changes(stateOf(t, taken[:len(taken)-1]), stateOf(t, taken))
}

// woven tells the blocks of a history's transactions, each named by its block's hash.
func woven(t *testing.T, l []api.Entry) [][]byte {
	t.Helper()
	hashes, blocks := map[api.Hash]api.Hash{}, [][]byte{}
	for _, x := range l {
		n, parents := x.Node, []api.Hash{}
		for _, h := range n.Parents {
			parents = append(parents, hashes[h])
		}
		n.Parents, n.Ops = rising(parents), slices.Clone(n.Ops)
		for i, o := range n.Ops {
			if h, is := hashes[o.At.Node]; is && o.At.Node != (api.Hash{}) {
				n.Ops[i].At.Node = h
			}
		}
		n.Ops = append(n.Ops, put("mark", string(x.ID[:]))) // so that no two have one block
		b, e := node.Encode(n)
		y, err := node.Entry(b)
		if e != api.OK || err != nil {
			t.Fatalf("%d, %v", e, err)
		}
		hashes[x.ID] = y.ID
		blocks = append(blocks, b)
	}
	return blocks
}

// W10: what is kept up beside a shelf, as blocks come to it in whatever order and some wait, shows what the shelf's history shows; so does what is taken out of its ark.
func TestBesideShelf(t *testing.T) {
	r := chance()
	for range 30 {
		blocks := woven(t, soil{r: r, keys: names(), most: 6}.grown(nil, 15))
		r.Shuffle(len(blocks), func(i, j int) { blocks[i], blocks[j] = blocks[j], blocks[i] })
		s, v := shelf.New(nil), live.New()
		for _, b := range blocks {
			taken, err := s.Take(b)
			if err != nil {
				t.Fatal(err)
			}
			for _, h := range taken.IDs {
				x, _ := s.Entry(h)
				takes(t, v, x, api.OK)
			}
			wantCells(t, "beside a shelf", v.Cells(), state.Of(s.Past()).Cells()...)
			if !slices.Equal(v.Heads(), s.Heads()) {
				t.Errorf("Heads: %x; the shelf's: %x", v.Heads(), s.Heads())
			}
		}
		l, err := ark.Unpack(ark.Pack(s))
		if err != nil {
			t.Fatal(err)
		}
		u := live.New()
		for _, b := range l {
			x, _ := node.Entry(b)
			takes(t, u, x, api.OK)
		}
		wantCells(t, "out of an ark", u.Cells(), v.Cells()...)
	}
}
