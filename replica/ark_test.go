package replica_test

import (
	"bytes"
	"crypto/sha256"
	"fmt"
	"slices"
	"testing"

	"pleach/api"
	"pleach/disk"
	"pleach/replica"
)

// arkOf tells the ark of blocks in this order, with a right sum; fewer than 128.
func arkOf(l ...string) []byte {
	b := append([]byte("PLEACHA1"), byte(len(l)))
	for _, x := range l {
		for n := len(x); ; n >>= 7 {
			if n < 128 {
				b = append(b, byte(n))
				break
			}
			b = append(b, byte(n)|128)
		}
		b = append(b, x...)
	}
	sum := sha256.Sum256(b)
	return append(b, sum[:]...)
}

// wantNoImport fails, if Import isn't refused with this error, or changes anything.
func wantNoImport(t *testing.T, what string, x teller, h *disk.Hand, b []byte, want api.Errno) {
	t.Helper()
	wantStill(t, what, x, h, func() {
		t.Helper()
		if taken, e := x.Import(b); tell(taken) != tell(api.Taken{}) || e != want {
			t.Errorf("%s: %v, %d; want %d", what, taken, e, want)
		}
	})
}

// P22.1: Export is the ark of what is held, in the one order; neither what waits nor what is open is in it. Nothing changes.
func TestExport(t *testing.T) {
	a, x := made("a"), made("x")
	b := made("b", a)
	c := made("c", b, x)
	for _, l := range [][]string{nil, {a}, {x, a}, {a, b, x}, {x, a, b, c}} {
		r, h := with(t, l...)
		deliver(t, r, blocksTo(1, made("w", made("nobody's"))))
		begin(t, r, put("a", "open"))
		wantStill(t, "Export", r, h, func() {
			if b := must2(t, r.Export); !bytes.Equal(b, arkOf(sorted(l...)...)) {
				t.Errorf("%d held: %x; want %x", len(l), b, arkOf(sorted(l...)...))
			}
		})
	}
}

// P22.1: Import takes the blocks in their order, an Append each; then, if any was taken, one Sync.
func TestImport(t *testing.T) {
	a, x := made("a"), made("x")
	b := made("b", a)
	c := made("c", b, x)
	for _, l := range []struct {
		held, wait, in []string
	}{
		{nil, nil, nil},
		{nil, nil, []string{a}},
		{nil, nil, []string{a, b, x, c}},
		{[]string{a}, nil, []string{a, b, x, c}},
		{[]string{x, a, b, c}, nil, []string{a, b, x, c}},
		{[]string{made("y")}, nil, []string{a, b}},
		{[]string{x}, []string{c, made("w", made("nobody's"))}, []string{a, b}},
		{nil, []string{b, c}, []string{a, x}},
	} {
		what := fmt.Sprintf("%d held, %d wait, %d in", len(l.held), len(l.wait), len(l.in))
		d, _ := onDisk(l.held...)
		m, _ := modelOpen(d, 1)
		for _, b := range l.wait {
			m.take(b)
		}
		row := arkOf(sorted(l.in...)...)
		want, _ := m.Import(row)
		acts := []act{}
		for _, b := range m.order[len(l.held):] {
			acts = append(acts, appends(0, b))
		}
		if len(acts) > 0 {
			acts = append(acts, syncs(0))
		}
		wantDone(t, what, 1<<20, l.held, func(r *replica.Replica) api.Errno {
			for _, b := range l.wait {
				r.Deliver(blocksTo(1, b))
			}
			_, e := r.Import(row)
			return e
		}, acts...)
		r, _ := with(t, l.held...)
		for _, b := range l.wait {
			r.Deliver(blocksTo(1, b))
		}
		got, e := r.Import(row)
		if e != api.OK || tell(got) != tell(want) {
			t.Errorf("%s: %v, %d; want %v", what, got, e, want)
		}
		wantHeld(t, what, r, m.order...)
		wantWaiting(t, what, r, m.wait...)
	}
}

// P22.1, P22.5, W6: what is no ark is refused with the number of its error, and nothing has changed: cut short, followed by more, each byte turned, blocks in another order, not closed, with clocks that don't fit.
func TestImportNoArk(t *testing.T) {
	a, x := made("a"), made("x")
	b := made("b", a)
	l := sorted(a, x, b)
	good := arkOf(l...)
	r, h := with(t, made("y"))
	deliver(t, r, blocksTo(1, made("w", b)))
	wantNoImport(t, "no bytes", r, h, nil, api.ErrShort)
	wantNoImport(t, "no ark", r, h, []byte("no ark"), api.ErrShort)
	wantNoImport(t, "another mark", r, h, append([]byte("PLEACHA2"), good[8:]...), api.ErrForm)
	wantNoImport(t, "a byte behind", r, h, append(bytes.Clone(good), 0), api.ErrRest)
	wantNoImport(t, "another sum", r, h, append(bytes.Clone(good[:len(good)-1]), good[len(good)-1]^1), api.ErrSum)
	wantNoImport(t, "a parent that isn't there", r, h, arkOf(b), api.ErrOrder)
	wantNoImport(t, "one twice", r, h, arkOf(a, a), api.ErrOrder)
	wantNoImport(t, "backwards", r, h, arkOf(l[2], l[1], l[0]), api.ErrOrder)
	wantNoImport(t, "a clock", r, h, arkOf(a, misfit(1, made("v", a))), api.ErrClock)
	wantNoImport(t, "a block that is none", r, h, arkOf("\x01\x09"), api.ErrAuthor)
	wantNoImport(t, "a message", r, h, blocksTo(1, a), api.ErrForm)
	for n := range good {
		wantNoImport(t, fmt.Sprint("bytes ", n), r, h, good[:n], api.ErrShort)
	}
	for at := range good {
		turned := bytes.Clone(good)
		turned[at] ^= 64
		if taken, e := r.Import(turned); e == api.OK || tell(taken) != tell(api.Taken{}) {
			t.Errorf("byte %d turned: %v, %d", at, taken, e)
		}
	}
	wantHeld(t, "no arks", r, made("y"))
	taken, e := r.Import(good)
	if e != api.OK {
		t.Fatal(e)
	}
	wantHeld(t, "an ark", r, made("y"), a, b, x, made("w", b))
	if len(taken.IDs) != 4 {
		t.Errorf("taken: %v", taken)
	}
}

// P22.1: where the room ends: ErrRoom, what was taken ahead of it is told, held and synced; with more room the rest is taken.
func TestImportRoom(t *testing.T) {
	a := made("a")
	b := made("b", a)
	c, x := made("c", b), made("x")
	l := sorted(a, b, c, x)
	row := arkOf(l...)
	for i := range l {
		what := fmt.Sprint("room for ", i)
		room := len(framesOf(l[:i+1]...)) - 1
		acts := []act{}
		for _, b := range l[:i] {
			acts = append(acts, appends(0, b))
		}
		if i > 0 {
			acts = append(acts, syncs(0))
		}
		wantDone(t, what, room, nil, func(r *replica.Replica) api.Errno { _, e := r.Import(row); return e }, acts...)
		d, h := disk.Lay(room+1000, []api.File{{Name: "other", Bytes: make([]byte, 1000)}})
		r := open(t, d)
		taken, e := r.Import(row)
		wantE(t, what, e, api.ErrRoom)
		wantTaken(t, what, taken, l[:i])
		wantHeld(t, what, r, l[:i]...)
		acted := h.Acts()
		taken, e = r.Import(row)
		wantE(t, what, e, api.ErrRoom)
		wantTaken(t, what, taken, nil)
		if h.Acts() != acted {
			t.Errorf("%s: again: %d acts", what, h.Acts()-acted)
		}
		h.Crash(nil)
		r = open(t, d)
		wantHeld(t, what+", opened again", r, l[:i]...)
		d.Cut("other", 0)
		taken, e = r.Import(row)
		wantE(t, what, e, api.OK)
		wantTaken(t, what, taken, l[i:])
	}
}

// P22.1: where MaxNodes are held: ErrMany, likewise; what is known is no hindrance.
func TestImportMany(t *testing.T) {
	l := sorted(append(wide(api.MaxNodes-3), made("a"), made("b"))...)
	r, h := with(t, l[:api.MaxNodes-2]...)
	more := sorted(l[3], l[9], made("p"), made("q"), made("r"), made("s"))
	fresh := slices.DeleteFunc(slices.Clone(more), func(b string) bool { return b == l[3] || b == l[9] })
	acts := h.Acts()
	taken, e := r.Import(arkOf(more...))
	wantE(t, "Import", e, api.ErrMany)
	wantTaken(t, "Import", taken, fresh[:2])
	if h.Acts() != acts+4 { // Sync of the segment that is full, two of Append, and Sync
		t.Errorf("%d acts", h.Acts()-acts)
	}
	acts = h.Acts()
	taken, e = r.Import(arkOf(more...))
	wantE(t, "again", e, api.ErrMany)
	wantTaken(t, "again", taken, nil)
	taken, e = r.Import(arkOf(sorted(l[3], l[9])...))
	wantE(t, "others", e, api.OK)
	wantTaken(t, "others", taken, nil)
	if n := len(must2(t, r.Held)); n != api.MaxNodes || h.Acts() != acts {
		t.Errorf("%d are held, %d acts", n, h.Acts()-acts)
	}
}

// W6: an ark, taken in by a replica that holds nothing, makes it hold the same, and show the same; its ark is the same, byte for byte. On the disk of either the same blocks lie, though perhaps in another order.
func TestThereAndBack(t *testing.T) {
	r := chance()
	for range 10 {
		x, _ := with(t)
		for _, b := range somePool(r, 30) {
			x.Deliver(blocksTo(1, b))
		}
		for range 3 {
			commit(t, x, put("a", fmt.Sprint(r.Uint32())), incr("n", 1), insert("l", "i"))
		}
		row := must2(t, x.Export)
		d, _ := disk.New(1 << 24)
		y := open(t, d, 7)
		taken, e := y.Import(row)
		held := must2(t, x.Held)
		if e != api.OK || !slices.Equal(taken.IDs, held) || len(taken.Lost) != 0 {
			t.Fatalf("Import: %v, %d", taken, e)
		}
		heads := must2(t, x.Heads)
		for _, z := range []teller{y, open(t, d, 3)} {
			if lookAll(z, "a", "b", "l", "n") != lookShown(x) || !bytes.Equal(must2(t, z.Export), row) || !slices.Equal(must2(t, z.Heads), heads) {
				t.Error("another replica")
			}
		}
	}
}

// lookShown is lookAll of a replica as it would be, if nothing waited.
func lookShown(x teller) string { return lookAll(still{x}, "a", "b", "l", "n") }

// still is a replica in which nothing waits.
type still struct{ teller }

func (still) Waiting() ([]api.Hash, api.Errno) { return nil, api.OK }
