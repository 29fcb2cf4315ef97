package replica_test

import (
	"fmt"
	"math"
	"slices"
	"testing"

	"pleach/api"
	"pleach/roots"
)

// all tells operations of each kind of cell, under one key and under others.
func all() []api.Op {
	return []api.Op{put("k", "x"), add("k", "b"), add("k", "a"), incr("k", -1), put("e", ""), insert("l", "p"), insert("l", "q", api.Ident{Op: 6})}
}

// P22.1: what is read of a replica that holds nothing: nothing.
func TestReadNothing(t *testing.T) {
	r, h := with(t)
	wantStill(t, "reading", r, h, func() {
		for _, key := range []string{"", "k", "\xff\x00"} {
			if l, e := r.Register(key); len(l) != 0 || e != api.OK {
				t.Errorf("Register: %q, %d", l, e)
			}
			if l, e := r.Members(key); len(l) != 0 || e != api.OK {
				t.Errorf("Members: %q, %d", l, e)
			}
			if n, e := r.Count(key); n != 0 || e != api.OK {
				t.Errorf("Count: %d, %d", n, e)
			}
			if l, e := r.Items(key); len(l) != 0 || e != api.OK {
				t.Errorf("Items: %v, %d", l, e)
			}
			for kind := 1; kind <= 4; kind++ {
				if c, e := r.At(nil, kind, key); c.Kind != 0 || c.Key != "" || len(c.Value) != 0 || e != api.OK {
					t.Errorf("At: %v, %d", c, e)
				}
				if w, e := r.Find(kind, key); w.Cells != 0 || len(w.Leaves) != 0 || e != api.OK {
					t.Errorf("Find: %v, %d", w, e)
				}
			}
		}
		root, _ := roots.Root(nil)
		if got, e := r.Root(); got != root || e != api.OK {
			t.Errorf("Root: %x, %d", got, e)
		}
		if l, e := r.Cells(); len(l) != 0 || e != api.OK {
			t.Errorf("Cells: %v, %d", l, e)
		}
	})
}

// P22.1: what is read, by the document's words, of one transaction; the open one isn't counted.
func TestRead(t *testing.T) {
	r, _ := with(t)
	id := commit(t, r, all()...)
	begin(t, r, put("k", "open"), add("k", "open"), incr("k", 100), api.Op{Kind: api.OpDelete, Key: "l", At: api.Ident{Node: id, Op: 6}})
	if l := must2(t, func() ([]string, api.Errno) { return r.Register("k") }); !slices.Equal(l, []string{"x"}) {
		t.Errorf("Register: %q", l)
	}
	if l := must2(t, func() ([]string, api.Errno) { return r.Register("e") }); !slices.Equal(l, []string{""}) {
		t.Errorf("Register: %q", l)
	}
	if l := must2(t, func() ([]string, api.Errno) { return r.Members("k") }); !slices.Equal(l, []string{"a", "b"}) {
		t.Errorf("Members: %q", l)
	}
	if n := must2(t, func() (int64, api.Errno) { return r.Count("k") }); n != -1 {
		t.Errorf("Count: %d", n)
	}
	items := must2(t, func() ([]api.Item, api.Errno) { return r.Items("l") })
	if want := []api.Item{{ID: api.Ident{Node: id, Op: 6}, Text: "p"}, {ID: api.Ident{Node: id, Op: 7}, Text: "q"}}; !slices.Equal(items, want) {
		t.Errorf("Items: %v; want %v", items, want)
	}
	list := "\x02" + string(id[:]) + "\x06\x01p" + string(id[:]) + "\x07\x01q"
	want := []api.Cell{{Kind: 1, Key: "e", Value: []byte("\x01\x00")}, {Kind: 1, Key: "k", Value: []byte("\x01\x01x")}, {Kind: 2, Key: "k", Value: []byte("\x02\x01a\x01b")}, {Kind: 3, Key: "k", Value: []byte{1}}, {Kind: 4, Key: "l", Value: []byte(list)}}
	if cells := must2(t, r.Cells); tell(cells) != tell(want) {
		t.Errorf("Cells: %x; want %x", cells, want)
	}
	for _, c := range want {
		if got, e := r.At([]api.Hash{id}, c.Kind, c.Key); e != api.OK || tell(got) != tell(c) {
			t.Errorf("At: %x, %d; want %x", got, e, c)
		}
	}
	root, _ := roots.Root(want)
	if got := must2(t, r.Root); got != root {
		t.Errorf("Root: %x; want %x", got, root)
	}
}

// P22.1: a witness tells, to whoever knows the root, what stands under a key, or that nothing does; of a kind that is none: ErrKind.
func TestFind(t *testing.T) {
	r, h := with(t)
	commit(t, r, all()...)
	root := must2(t, r.Root)
	for _, key := range []string{"", "a", "e", "k", "l", "z"} {
		for kind := 1; kind <= 4; kind++ {
			w, e := r.Find(kind, key)
			wantE(t, "Find", e, api.OK)
			c, is, e := roots.Check(root, kind, key, w)
			at, e2 := r.At(must2(t, r.Heads), kind, key)
			if e != api.OK || e2 != api.OK || is != (at.Kind != 0) || tell(c) != tell(at) || w.Cells != 5 {
				t.Errorf("kind %d, key %q: %x, %v, %d; want %x, %d", kind, key, c, is, e, at, e2)
			}
		}
	}
	wantStill(t, "Find of no kind", r, h, func() {
		for _, kind := range []int{0, 5, -1, math.MinInt, math.MaxInt, 1<<32 + 1} {
			if w, e := r.Find(kind, "k"); e != api.ErrKind || w.Cells != 0 || len(w.Leaves) != 0 {
				t.Errorf("Find of kind %d: %v, %d", kind, w, e)
			}
		}
	})
}

// P22.1: At tells a cell as it was at heads, whichever of those that are held, in whatever order, however often; without heads nothing stands there.
func TestAt(t *testing.T) {
	a := child(8, []api.Op{put("k", "1"), incr("n", 1)})
	b := child(8, []api.Op{put("k", "2"), incr("n", 10)}, a)
	c := child(7, []api.Op{put("k", "3"), incr("n", 100)}, a)
	d := child(6, []api.Op{put("k", "4"), incr("n", 1000)}, b, c)
	r, h := with(t, a, b, c, d)
	both := "\x02\x012\x013"
	if compare(hashOf(b), hashOf(c)) > 0 {
		both = "\x02\x013\x012"
	}
	for _, x := range []struct {
		heads         []string
		k, n          string
		register, all string
	}{
		{nil, "", "", "", ""},
		{[]string{a}, "\x01\x011", "\x02", "", ""},
		{[]string{b}, "\x01\x012", "\x16", "", ""},
		{[]string{c}, "\x01\x013", "\xca\x01", "", ""},
		{[]string{b, c}, both, "\xde\x01", "", ""},
		{[]string{c, b, c, a, b}, both, "\xde\x01", "", ""},
		{[]string{d}, "\x01\x014", "\xae\x11", "", ""},
		{[]string{a, d, b}, "\x01\x014", "\xae\x11", "", ""},
	} {
		k, e := r.At(hashesOf(x.heads), api.CellRegister, "k")
		n, e2 := r.At(hashesOf(x.heads), api.CellCounter, "n")
		if e != api.OK || e2 != api.OK || string(k.Value) != x.k || string(n.Value) != x.n || (k.Kind == 1) != (x.k != "") || (k.Key == "k") != (x.k != "") || (n.Kind == 3) != (x.n != "") {
			t.Errorf("at %s: %x, %d; %x, %d", show(hashesOf(x.heads)), k, e, n, e2)
		}
		for _, kind := range []int{api.CellSet, api.CellList} {
			if c, e := r.At(hashesOf(x.heads), kind, "k"); e != api.OK || c.Kind != 0 || c.Key != "" || len(c.Value) != 0 {
				t.Errorf("at %s: %x, %d", show(hashesOf(x.heads)), c, e)
			}
		}
	}
	wantStill(t, "At", r, h, func() { r.At(hashesOf([]string{b}), 1, "k") })
}

// P22.1: At of kinds that are none comes ahead of heads that aren't held; what waits isn't held.
func TestAtRefused(t *testing.T) {
	a, b := made("a"), made("b", made("nobody's"))
	r, h := with(t, a)
	deliver(t, r, blocksTo(1, b))
	wantStill(t, "At", r, h, func() {
		for _, kind := range []int{0, 5, -1, math.MinInt, math.MaxInt, 1<<32 + 1} {
			for _, heads := range [][]api.Hash{nil, {hashOf(a)}, {{}}, {hashOf(b)}} {
				if c, e := r.At(heads, kind, "k"); e != api.ErrKind || tell(c) != tell(api.Cell{}) {
					t.Errorf("At of kind %d: %v, %d", kind, c, e)
				}
			}
		}
		for _, heads := range [][]api.Hash{{{}}, {hashOf(b)}, {hashOf(a), hashOf(b)}, {{1}, hashOf(a)}, {hashOf(made("nobody's"))}} {
			if c, e := r.At(heads, api.CellRegister, "k"); e != api.ErrAbsent || tell(c) != tell(api.Cell{}) {
				t.Errorf("At of %s: %v, %d", show(heads), c, e)
			}
		}
	})
}

// P22.1: Block of what is held, and of what isn't: what waits isn't.
func TestBlock(t *testing.T) {
	a, w := made("a"), made("w", made("nobody's"))
	r, h := with(t, a)
	deliver(t, r, blocksTo(1, w))
	wantStill(t, "Block", r, h, func() {
		if b, e := r.Block(hashOf(a)); string(b) != a || e != api.OK {
			t.Errorf("Block: %x, %d", b, e)
		}
		for _, id := range []api.Hash{{}, {1}, hashOf(w), hashOf(made("nobody's"))} {
			if b, e := r.Block(id); len(b) != 0 || e != api.ErrAbsent {
				t.Errorf("Block: %x, %d", b, e)
			}
		}
	})
}

// P22.1, P22.2: Heads rise, Held is in the one order, Waiting the oldest first; they are no others than those that came.
func TestLists(t *testing.T) {
	r := chance()
	for range 20 {
		l := []string{}
		for i := range 1 + r.IntN(30) {
			parents := []string{}
			for _, b := range l {
				if r.IntN(6) == 0 {
					parents = append(parents, b)
				}
			}
			l = append(l, made(fmt.Sprint(i, r.Uint32()), parents...))
		}
		x, _ := with(t)
		for _, b := range mixed(r, l) {
			deliver(t, x, blocksTo(1, b))
		}
		wantHeld(t, "in another order", x, l...)
		wantWaiting(t, "in another order", x)
		w := []string{}
		for i := range 10 {
			w = append(w, made(fmt.Sprint("w", i), made("nobody's"), l[0]))
		}
		w = mixed(r, w)
		deliver(t, x, blocksTo(1, w...))
		wantHeld(t, "and others wait", x, l...)
		wantWaiting(t, "and others wait", x, w...)
		deliver(t, x, blocksTo(1, made("nobody's")))
		wantWaiting(t, "none waits", x)
		wantHeld(t, "none waits", x, append(append(l, w...), made("nobody's"))...)
	}
}

// P22.3: what a replica shows behind a commit is what it showed, with its operations done.
func TestShownThen(t *testing.T) {
	a := child(8, []api.Op{put("k", "1"), add("s", "x"), incr("n", 5)})
	b := child(7, []api.Op{put("k", "2"), add("s", "y"), add("s", "x"), incr("n", 7), put("other", "o")})
	r, _ := with(t, a, b)
	if l := must2(t, func() ([]string, api.Errno) { return r.Register("k") }); len(l) != 2 {
		t.Errorf("k: %q", l)
	}
	commit(t, r, put("k", "3"), api.Op{Kind: api.OpRemove, Key: "s", Text: "x"}, incr("n", 1), add("s", "z"))
	want := "\x01\x013; \x01\x01o; \x02\x01y\x01z; \x1a; "
	got := ""
	for _, c := range must2(t, r.Cells) {
		got += string(c.Value) + "; "
	}
	if got != want {
		t.Errorf("shown: %q; want %q", got, want)
	}
	commit(t, r, api.Op{Kind: api.OpClear, Key: "k"}, api.Op{Kind: api.OpWipe, Key: "s"}, api.Op{Kind: api.OpZero, Key: "n"})
	if cells := must2(t, r.Cells); len(cells) != 1 || cells[0].Key != "other" {
		t.Errorf("shown: %v", cells)
	}
}
