package replica_test

import (
	"bytes"
	"slices"
	"testing"

	"pleach/api"
	"pleach/disk"
	"pleach/replica"
	"pleach/roots"
)

// wantTexts fails, if a register has others than these texts, or in another order.
func wantTexts(t *testing.T, what string, x teller, key string, want ...string) {
	t.Helper()
	if l, e := x.Register(key); e != api.OK || !slices.Equal(l, want) {
		t.Errorf("%s: %q has %q, %d; want %q", what, key, l, e, want)
	}
}

// wantShown fails, if a list shows other texts, or in another order.
func wantShown(t *testing.T, what string, x teller, key string, want ...string) {
	t.Helper()
	l := []string{}
	for _, i := range must2(t, func() ([]api.Item, api.Errno) { return x.Items(key) }) {
		l = append(l, i.Text)
	}
	if !slices.Equal(l, want) {
		t.Errorf("%s: %q shows %q; want %q", what, key, l, want)
	}
}

// P22.1: the chapter's examples, 1 and 2.
func TestExampleCommit(t *testing.T) {
	d, h := disk.New(100000)
	r := open(t, d)
	wantE(t, "Begin", r.Begin(), api.OK)
	wantE(t, "Begin", r.Begin(), api.ErrState)
	wantE(t, "Do", r.Do(put("a", "x")), api.OK)
	wantE(t, "Do", r.Do(api.Op{}), api.ErrKind)
	wantTexts(t, "open", r, "a")
	h1 := must2(t, r.Commit)
	_, e := r.Commit()
	wantE(t, "Commit", e, api.ErrState)
	wantTexts(t, "committed", r, "a", "x")
	if l := must2(t, r.Heads); !slices.Equal(l, []api.Hash{h1}) || h.Acts() != 2 {
		t.Errorf("heads %s, %d acts", show(l), h.Acts())
	}
	one := child(1, []api.Op{put("a", "x")})
	two := child(1, []api.Op{put("a", "y")}, one)
	if !sameFiles(h.Files(), []api.File{seg(0, framesOf(one))}) {
		t.Errorf("on the disk: %s", showFiles(h.Files()))
	}

	begin(t, r, put("a", "y"))
	h.Fuse(0)
	_, e = r.Commit()
	wantE(t, "Commit", e, api.ErrPower)
	_, e = r.Heads()
	wantE(t, "Heads", e, api.ErrPower)
	wantDead(t, "dead", r, h)
	all := len(frameOf(two))
	for keep := range all + 1 {
		d, g := h.Copy()
		g.Crash([]int{keep})
		r := open(t, d)
		if keep == all {
			wantTexts(t, "all kept", r, "a", "y")
			continue
		}
		wantTexts(t, "not all kept", r, "a", "x")
		if !sameFiles(g.Files(), []api.File{seg(0, framesOf(one))}) {
			t.Errorf("%d bytes kept: on the disk: %s", keep, showFiles(g.Files()))
		}
	}
}

// P22.1: the chapter's examples, 3 to 6.
func TestExampleOthers(t *testing.T) {
	d, h := disk.New(100000)
	r := open(t, d)
	h1 := commit(t, r, put("a", "x"))
	d, g := disk.New(100000)
	s := open(t, d, 2)
	b := must2(t, func() ([]byte, api.Errno) { return r.Tick(2) })
	out, taken := deliver(t, s, b)
	if _, _, m := read(t, out[0]); len(out) != 1 || m.Kind != api.MsgWant || !slices.Equal(m.Want, []api.Hash{h1}) || len(taken.IDs) != 0 {
		t.Errorf("a hello: %d messages, %v, %v", len(out), m, taken)
	}
	out, taken = deliver(t, r, out[0])
	if _, _, m := read(t, out[0]); len(out) != 1 || m.Kind != api.MsgBlocks || len(m.Blocks) != 1 || len(taken.IDs) != 0 {
		t.Errorf("a want: %d messages, %v, %v", len(out), m, taken)
	}
	out, taken = deliver(t, s, out[0])
	if len(out) != 0 || !slices.Equal(taken.IDs, []api.Hash{h1}) || g.Acts() != 2 {
		t.Errorf("a block: %d messages, %v, %d acts", len(out), taken, g.Acts())
	}
	wantTexts(t, "told", s, "a", "x")

	turned := bytes.Clone(b)
	turned[len(b)-1] ^= 1
	wantNoDeliver(t, "the last byte turned", s, g, turned, api.ErrSeal)
	wantNoDeliver(t, "its own", r, h, b, api.ErrArg)
	wantNoTick(t, r, 1, api.ErrArg)

	wantRefused(t, "one head", r, h, r.Merge, api.ErrHeads)
	commit(t, r, put("a", "y"))
	commit(t, s, put("a", "z"))
	row := must2(t, s.Export)
	if taken, e := r.Import(row); e != api.OK || len(taken.IDs) != 1 {
		t.Errorf("Import: %v, %d", taken, e)
	}
	if l, k := must2(t, r.Heads), must2(t, func() ([]string, api.Errno) { return r.Register("a") }); len(l) != 2 || len(k) != 2 {
		t.Errorf("heads %s, texts %q", show(l), k)
	}
	must2(t, r.Merge)
	if l := must2(t, r.Heads); len(l) != 1 {
		t.Errorf("heads %s", show(l))
	}
	d, _ = disk.New(100000)
	x := open(t, d, 3)
	if _, e := x.Import(must2(t, r.Export)); e != api.OK || !slices.Equal(must2(t, x.Held), must2(t, r.Held)) {
		t.Errorf("Import: %d", e)
	}
}

// The document's examples of the whole, 1, 2 and 5: who holds what shows what.
func TestExampleShown(t *testing.T) {
	a := child(1, []api.Op{put("k", "1")})
	b := child(2, []api.Op{put("k", "2")}, a)
	c := child(3, []api.Op{put("k", "3")}, a)
	r, _ := with(t, a)
	wantTexts(t, "a", r, "k", "1")
	deliver(t, r, blocksTo(1, b))
	wantTexts(t, "a, b", r, "k", "2")
	deliver(t, r, blocksTo(1, c))
	if compare(hashOf(b), hashOf(c)) < 0 {
		wantTexts(t, "a, b, c", r, "k", "2", "3")
	} else {
		wantTexts(t, "a, b, c", r, "k", "3", "2")
	}
	id := commit(t, r, put("k", "4"))
	if n := nodeAt(t, r, id); !slices.Equal(n.Parents, rising(hashesOf([]string{b, c}))) || n.Clock != 3 || n.Author != 1 {
		t.Errorf("d: %v", n)
	}
	wantTexts(t, "d", r, "k", "4")

	five, seven := child(1, []api.Op{incr("n", 5)}), child(2, []api.Op{incr("n", 7)})
	r, _ = with(t, five, seven, child(3, []api.Op{{Kind: api.OpZero, Key: "n"}}, five))
	if n := must2(t, func() (int64, api.Errno) { return r.Count("n") }); n != 7 {
		t.Errorf("n is %d", n)
	}
	r, _ = with(t, seven, five)
	if n := must2(t, func() (int64, api.Errno) { return r.Count("n") }); n != 12 {
		t.Errorf("n is %d", n)
	}
}

// The document's example of the whole 6, and P22.6: two that insert behind one item at one time.
func TestExampleList(t *testing.T) {
	x := child(8, []api.Op{insert("l", "x"), insert("l", "y", api.Ident{Op: 1})})
	behind := api.Ident{Node: hashOf(x), Op: 1}
	p, q := child(1, []api.Op{insert("l", "p", behind)}, x), child(2, []api.Op{insert("l", "q", behind)}, x)
	want := []string{"x", "q", "p", "y"}
	if slices.Index(sorted(x, p, q), p) > slices.Index(sorted(x, p, q), q) {
		want = []string{"x", "p", "q", "y"}
	}
	r, _ := with(t, x)
	commit(t, r, insert("l", "p", behind))
	wantShown(t, "one", r, "l", "x", "p", "y")
	deliver(t, r, blocksTo(1, q))
	wantHeld(t, "one", r, x, p, q)
	wantShown(t, "both", r, "l", want...)
	for range 5 {
		commit(t, r, insert("l", "more"), insert("l", "end", behind), put("k", "x"))
	}
	l := []string{}
	for _, i := range must2(t, func() ([]api.Item, api.Errno) { return r.Items("l") }) {
		if i.Text != "more" && i.Text != "end" {
			l = append(l, i.Text)
		}
	}
	if !slices.Equal(l, want) {
		t.Errorf("later: %q; want %q", l, want)
	}
}

// The document's example of the whole 7: a digest that lies about b alone.
func TestExampleLie(t *testing.T) {
	a := made("a")
	b := made("b", a)
	c := made("c", b)
	d, _ := onDisk(a, b, c)
	x, _ := with(t)
	y := open(t, d, 2)
	hello := letter(1, 2, helloMsg([]string{b}, nil))
	out, _ := deliver(t, y, hello)
	_, taken := deliver(t, x, out[0])
	wantTaken(t, "round 1", taken, []string{a})
	wantWaiting(t, "round 1", x, c)
	out, _ = deliver(t, y, must2(t, func() ([]byte, api.Errno) { return x.Tick(2) }))
	_, taken = deliver(t, x, out[0])
	wantTaken(t, "round 2", taken, []string{b, c})
}

// The document's examples of the whole 9 and 10: arks and witnesses.
func TestExampleArk(t *testing.T) {
	a := child(1, []api.Op{put("a", "1"), put("b", "2"), incr("n", 3)})
	b := made("b", a)
	l := []string{a, b, made("c", b)}
	r, h := with(t)
	row := arkOf(l...)
	row[60] ^= 1
	taken, e := r.Import(row)
	if e == api.OK || tell(taken) != tell(api.Taken{}) || h.Acts() != 0 {
		t.Errorf("turned: %v, %d", taken, e)
	}
	row[60] ^= 1
	taken, e = r.Import(row)
	wantE(t, "Import", e, api.OK)
	wantTaken(t, "Import", taken, l)
	if got := must2(t, r.Export); !bytes.Equal(got, row) {
		t.Errorf("another ark: %x; want %x", got, row)
	}
	r, _ = with(t, a)
	root := must2(t, r.Root)
	w, e := r.Find(api.CellRegister, "b")
	if e != api.OK || w.Cells != 3 || len(w.Leaves) != 1 || w.Leaves[0].Number != 1 || len(w.Leaves[0].Path) != 2 {
		t.Errorf("Find: %v, %d", w, e)
	}
	if c, is, e := roots.Check(root, api.CellRegister, "b", w); !is || e != api.OK || string(c.Value) != "\x01\x012" {
		t.Errorf("Check: %v, %v, %d", c, is, e)
	}
	w, e = r.Find(api.CellRegister, "aa")
	if e != api.OK || len(w.Leaves) != 2 || w.Leaves[0].Cell.Key != "a" || w.Leaves[1].Cell.Key != "b" {
		t.Errorf("Find: %v, %d", w, e)
	}
}

// P22.1: two replicas have nothing in common.
func TestTwoReplicas(t *testing.T) {
	d, h := disk.New(1000)
	d2, g := disk.New(1000)
	r, s := open(t, d), open(t, d2)
	begin(t, r, put("a", "x"))
	wantE(t, "Do", s.Do(put("a", "y")), api.ErrState)
	commit(t, s, put("a", "y"))
	g.Fuse(0)
	begin(t, s)
	_, e := s.Commit()
	wantE(t, "Commit", e, api.ErrPower)
	must2(t, r.Commit)
	wantTexts(t, "one", r, "a", "x")
	wantDead(t, "the other one", s, g)
	if h.Acts() != 2 || g.Acts() != 3 {
		t.Errorf("%d and %d acts", h.Acts(), g.Acts())
	}
	if x, e := replica.Open(d2, 2, key7()); x != nil || e != api.ErrPower {
		t.Errorf("Open: %v, %d", x, e)
	}
}
