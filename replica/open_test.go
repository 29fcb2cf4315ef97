package replica_test

import (
	"bytes"
	"fmt"
	"math"
	"slices"
	"testing"

	"pleach/api"
	"pleach/disk"
	"pleach/replica"
)

// wantNo fails, if Open answers otherwise than with nil and this error, or does an act.
func wantNo(t *testing.T, what string, d *disk.Disk, h *disk.Hand, author int, key []byte, want api.Errno) {
	t.Helper()
	acts, files := 0, []api.File{}
	if h != nil {
		acts, files = h.Acts(), h.Files()
	}
	if r, e := replica.Open(d, author, key); r != nil || e != want {
		t.Errorf("%s: %v, %d; want %d", what, r, e, want)
	}
	if h != nil && (h.Acts() != acts || !sameFiles(h.Files(), files)) {
		t.Errorf("%s: acts were done", what)
	}
}

// gone tells a disk whose power is gone.
func gone(files ...api.File) (*disk.Disk, *disk.Hand) {
	d, h := disk.Lay(1000, files)
	h.Fuse(0)
	d.Append("x", nil)
	return d, h
}

// P22.1: authors and keys that may not be, no disk, and one whose power is gone: which error comes ahead of which, and nothing is done.
func TestOpenRefused(t *testing.T) {
	torn := seg(0, append(framesOf(made("a")), 1))
	for _, author := range []int{0, 9, -1, math.MinInt, math.MaxInt, 1<<32 + 1, 256 + 1} {
		d, h := disk.Lay(1000, []api.File{torn})
		wantNo(t, fmt.Sprint("author ", author), d, h, author, key7(), api.ErrArg)
		d, h = gone(torn)
		wantNo(t, "author and power", d, h, author, key7(), api.ErrArg)
	}
	for _, n := range []int{0, 1, 31, 33, 64} {
		d, h := disk.Lay(1000, []api.File{torn})
		wantNo(t, fmt.Sprint("a key of bytes ", n), d, h, 1, make([]byte, n), api.ErrArg)
		d, h = gone(torn)
		wantNo(t, "key and power", d, h, 1, make([]byte, n), api.ErrArg)
	}
	wantNo(t, "no key", nil, nil, 1, nil, api.ErrArg)
	wantNo(t, "no disk", nil, nil, 1, key7(), api.ErrArg)
	d, h := gone()
	wantNo(t, "power", d, h, 1, key7(), api.ErrPower)
	d, h = gone(torn)
	wantNo(t, "power, and a journal", d, h, 8, key7(), api.ErrPower)
}

// P22.1: every author that may be, on a new disk: nothing is held, nothing waits, no transaction is open, no tick was made, no act is done.
func TestOpenNew(t *testing.T) {
	for author := 1; author <= 8; author++ {
		d, h := disk.New(1000)
		r := open(t, d, author)
		wantHeld(t, "new", r)
		wantWaiting(t, "new", r)
		if l := must2(t, r.Cells); len(l) != 0 {
			t.Errorf("cells: %v", l)
		}
		wantE(t, "Abort", r.Abort(), api.ErrState)
		if h.Acts() != 0 || len(h.Files()) != 0 {
			t.Errorf("%d acts, %s", h.Acts(), showFiles(h.Files()))
		}
		to := author%8 + 1
		from, who, m := read(t, must2(t, func() ([]byte, api.Errno) { return r.Tick(to) }))
		if from != author || who != to || m.Salt != 1 {
			t.Errorf("the first tick: from %d to %d, salt %d", from, who, m.Salt)
		}
		commit(t, r, put("a", "x"))
		held := must2(t, r.Held)
		b := must2(t, func() ([]byte, api.Errno) { return r.Block(held[0]) })
		if n := nodeOf(string(b)); n.Author != author {
			t.Errorf("author %d; want %d", n.Author, author)
		}
	}
}

// must2 tells what a call answers beside OK.
func must2[T any](t *testing.T, call func() (T, api.Errno)) T {
	t.Helper()
	x, e := call()
	return must(t, x, e)
}

// wantOpen fails, if Open of a disk of such files does others than these acts, or holds others than these blocks.
func wantOpen(t *testing.T, what string, files []api.File, held []string, acts ...act) {
	t.Helper()
	wantActs(t, what, func() (*disk.Disk, *disk.Hand, func() api.Errno) {
		d, h := disk.Lay(0, files)
		return d, h, func() api.Errno {
			r, e := replica.Open(d, 1, key7())
			if (r == nil) != (e != api.OK) {
				t.Errorf("%s: a replica: %v, beside error %d", what, r != nil, e)
			}
			return e
		}
	}, acts...)
	d, h := disk.Lay(1<<20, files)
	r := open(t, d)
	wantHeld(t, what, r, held...)
	wantWaiting(t, what, r)
	if n := h.Acts(); n != len(acts) {
		t.Errorf("%s: %d acts behind asking", what, n)
	}
	wantGoesOn(t, what, r, d, held)
}

// wantGoesOn fails, if an opened replica doesn't take a commit as any other, or hasn't all, opened once more.
func wantGoesOn(t *testing.T, what string, r *replica.Replica, d *disk.Disk, held []string) {
	t.Helper()
	if len(headsOf(held...)) > api.MaxParents {
		return
	}
	more := child(1, []api.Op{put("a", "more")}, heads(held)...)
	if h := commit(t, r, put("a", "more")); h != hashOf(more) {
		t.Errorf("%s: another commit", what)
	}
	wantHeld(t, what+", and more", r, append(slices.Clone(held), more)...)
	again := open(t, d)
	wantHeld(t, what+", opened once more", again, append(slices.Clone(held), more)...)
	wantWaiting(t, what+", opened once more", again)
}

// heads tells those of some blocks that none of them names.
func heads(l []string) []string {
	out := []string{}
	for _, b := range l {
		if slices.Contains(headsOf(l...), hashOf(b)) {
			out = append(out, b)
		}
	}
	return out
}

// P22.1: a disk that has a journal all of whose blocks are taken: what it has is held, in whatever order it was laid; the acts are those of the journal's Open alone.
func TestOpenJournal(t *testing.T) {
	a, x := made("a"), made("x")
	b := made("b", a)
	c, e := made("c", b), made("e", a, x)
	f := made("f", c, e)
	for _, l := range [][]string{{a}, {a, x}, {x, a}, {a, b, c}, {x, a, e, b, c, f}, {a, b, x, e, c, f}} {
		what := fmt.Sprint(len(l), " blocks")
		wantOpen(t, what, []api.File{seg(0, framesOf(l...))}, l, syncs(0))
		wantOpen(t, what+", torn", []api.File{seg(0, append(framesOf(l...), 9))}, l, cuts(0, len(framesOf(l...))), syncs(0))
		wantOpen(t, what+", in two segments", []api.File{seg(0, framesOf(l[0])), seg(1, framesOf(l[1:]...))}, l, syncs(1))
		wantOpen(t, what+", and one again", []api.File{seg(0, framesOf(append(slices.Clone(l), l[0])...))}, l, syncs(0), cuts(0, len(framesOf(l...))))
	}
	wantOpen(t, "an empty segment", []api.File{seg(0, nil)}, nil, syncs(0))
	wantOpen(t, "another's file", []api.File{seg(0, framesOf(a)), {Name: "x", Bytes: []byte{1}, Safe: 1}}, []string{a}, syncs(0))
}

// P22.1: at the first block that the shelf doesn't take, whatever the reason, the store is cut, and what stands behind it goes, too, though it would be taken; nothing waits.
func TestOpenCut(t *testing.T) {
	a, x := made("a"), made("x")
	b := made("b", a)
	c := made("c", b)
	wrong := map[string]string{
		"a parent that isn't there":  made("w", made("nobody's")),
		"a parent that comes later":  c,
		"one parent of two":          made("w", a, made("nobody's")),
		"a clock that doesn't fit":   misfit(1, made("w", a)),
		"no block":                   "\x00",
		"a block and a byte":         made("w") + "\x00",
		"a beginning of a block":     made("w")[:9],
		"an author 9":                "\x01\x09\x01\x00\x00",
		"operations that may not be": "\x01\x01\x01\x00\x01\x0a",
	}
	for what, w := range wrong {
		for i, ahead := range [][]string{nil, {a}, {a, x}} {
			what := fmt.Sprint(what, ", ahead of it ", i)
			cut := len(framesOf(ahead...))
			wantOpen(t, what, []api.File{seg(0, framesOf(append(slices.Clone(ahead), w)...))}, ahead, syncs(0), cuts(0, cut))
			behind := append(append(slices.Clone(ahead), w), made("behind"), b, made("far"))
			wantOpen(t, what+", and others", []api.File{seg(0, framesOf(behind...))}, ahead, syncs(0), cuts(0, cut))
			wantOpen(t, what+", and others, torn", []api.File{seg(0, append(framesOf(behind...), 7))}, ahead, cuts(0, len(framesOf(behind...))), syncs(0), cuts(0, cut))
			files := []api.File{seg(0, framesOf(ahead...)), seg(1, framesOf(w, b)), seg(2, framesOf(made("p"))), seg(3, framesOf(made("q")))}
			wantOpen(t, what+", in segments", files, ahead, syncs(3), drops(3), drops(2), cuts(1, 0))
		}
	}
	wantOpen(t, "backwards", []api.File{seg(0, framesOf(c, b, a))}, nil, syncs(0), cuts(0, 0))
	wantOpen(t, "one of three", []api.File{seg(0, framesOf(a, c, b))}, []string{a}, syncs(0), cuts(0, len(framesOf(a))))
}

// P22.1: what was cut off may come again, and is taken as any other.
func TestCutComesAgain(t *testing.T) {
	a := made("a")
	b := made("b", a)
	c, y := made("c", b), made("y")
	d, h := onDisk(a, c, b, y)
	r := open(t, d)
	wantHeld(t, "cut", r, a)
	acts := h.Acts()
	_, taken := deliver(t, r, blocksTo(1, c, b, y, a))
	wantTaken(t, "again", taken, []string{b, c, y})
	if h.Acts() != acts+4 {
		t.Errorf("%d acts", h.Acts()-acts)
	}
	wantHeld(t, "again", r, a, b, c, y)
	wantHeld(t, "opened again", open(t, d), a, b, c, y)
}

// P22.1: more blocks than may be held: those behind MaxNodes are cut off.
func TestOpenTooMany(t *testing.T) {
	l := wide(api.MaxNodes + 3)
	files := []api.File{seg(0, framesOf(l[:4090]...)), seg(1, framesOf(l[4090:api.MaxNodes+1]...)), seg(2, framesOf(l[api.MaxNodes+1:]...))}
	d, h := disk.Lay(1<<20, files)
	r := open(t, d)
	held := must2(t, r.Held)
	if !slices.Equal(held, rising(hashesOf(l[:api.MaxNodes]))) || h.Acts() != 3 {
		t.Errorf("%d are held, %d acts", len(held), h.Acts())
	}
	if !sameFiles(h.Files(), []api.File{files[0], seg(1, framesOf(l[4090:api.MaxNodes]...))}) {
		t.Errorf("on the disk: %s", showFiles(h.Files()))
	}
	_, e := r.Merge()
	wantE(t, "Merge", e, api.ErrMany)
}

// P22.4: the power goes at any act of Open, the cut's too, and again at any of the next one: what is opened in the end is what would have been.
func TestOpenPower(t *testing.T) {
	a := made("a")
	b := made("b", a)
	files := []api.File{seg(0, framesOf(a)), seg(1, framesOf(b, misfit(2, made("w", b)), made("x"))), seg(2, framesOf(made("y"))), seg(3, append(framesOf(made("z")), 1))}
	const acts = 5 // Cut and Sync of j0003; Drop of it, of j0002, Cut of j0001
	for first := range acts {
		for second := range acts + 1 {
			d, h := disk.Lay(1<<20, files)
			h.Fuse(first)
			if r, e := replica.Open(d, 1, key7()); r != nil || e != api.ErrPower || h.Acts() != first+1 {
				t.Errorf("the power going at act %d: %v, %d, %d acts", first, r, e, h.Acts())
			}
			h.Crash(nil)
			h.Fuse(second)
			replica.Open(d, 1, key7())
			h.Crash(nil)
			r := open(t, d)
			wantHeld(t, "opened", r, a, b)
			wantGoesOn(t, "opened", r, d, []string{a, b})
		}
	}
}

// P22.1: the key is copied: what becomes of the one that was handed in changes nothing.
func TestKeyCopied(t *testing.T) {
	d, _ := disk.New(1000)
	whole := append(key7(), 1, 2, 3)
	r, e := replica.Open(d, 1, whole[:32])
	wantE(t, "Open", e, api.OK)
	if !bytes.Equal(whole, append(key7(), 1, 2, 3)) {
		t.Error("the key has changed")
	}
	clear(whole)
	read(t, must2(t, func() ([]byte, api.Errno) { return r.Tick(2) }))
	deliver(t, r, blocksTo(1, made("a")))
}

// P22.1: another key, another replica: their messages are no messages to one another.
func TestOtherKey(t *testing.T) {
	d, _ := disk.New(1000)
	d2, _ := disk.New(1000)
	other := key7()
	other[31]++
	r := open(t, d)
	s, e := replica.Open(d2, 2, other)
	wantE(t, "Open", e, api.OK)
	_, _, e = s.Deliver(must2(t, func() ([]byte, api.Errno) { return r.Tick(2) }))
	wantE(t, "Deliver", e, api.ErrSeal)
	_, _, e = r.Deliver(must2(t, func() ([]byte, api.Errno) { return s.Tick(1) }))
	wantE(t, "Deliver", e, api.ErrSeal)
}

// P22.1, P22.2: what is opened again, without the power's having gone, has no open transaction, and has made no tick; what waited waits no more.
func TestOpenedAgain(t *testing.T) {
	d, h := disk.New(1 << 20)
	r := open(t, d)
	h1 := commit(t, r, put("a", "x"))
	deliver(t, r, blocksTo(1, made("w", made("nobody's"))))
	r.Tick(2)
	r.Tick(3)
	begin(t, r, put("a", "y"))
	acts := h.Acts()
	s := open(t, d)
	if h.Acts() != acts+1 { // Sync of j0000
		t.Errorf("%d acts", h.Acts()-acts)
	}
	wantWaiting(t, "again", s)
	if held := must2(t, s.Held); !slices.Equal(held, []api.Hash{h1}) {
		t.Errorf("held: %s", show(held))
	}
	wantE(t, "Do", s.Do(put("a", "z")), api.ErrState)
	if _, _, m := read(t, must2(t, func() ([]byte, api.Errno) { return s.Tick(2) })); m.Salt != 1 || len(m.Want) != 0 {
		t.Errorf("salt %d, want %s", m.Salt, show(m.Want))
	}
}
