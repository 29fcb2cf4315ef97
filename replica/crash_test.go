package replica_test

import (
	"fmt"
	"slices"
	"strings"
	"testing"

	"pleach/api"
	"pleach/disk"
	"pleach/replica"
)

// step is something that a replica is told.
type step struct {
	what string
	do   func(x teller) api.Errno
}

// commits tells a commit of operations.
func commits(l ...api.Op) step {
	return step{"commit", func(x teller) api.Errno {
		x.Abort()
		e := x.Begin()
		for _, o := range l {
			x.Do(o)
		}
		if e == api.OK {
			_, e = x.Commit()
		}
		return e
	}}
}

func merges() step {
	return step{"merge", func(x teller) api.Errno { _, e := x.Merge(); return e }}
}

func delivers(l ...string) step {
	return step{fmt.Sprint("deliver ", len(l)), func(x teller) api.Errno { _, _, e := x.Deliver(blocksTo(1, l...)); return e }}
}

func imports(l ...string) step {
	return step{fmt.Sprint("import ", len(l)), func(x teller) api.Errno { _, e := x.Import(arkOf(sorted(l...)...)); return e }}
}

func ticks() step {
	return step{"tick", func(x teller) api.Errno { _, e := x.Tick(2); return e }}
}

// ordersOf tells what has been taken, in its order, when a replica on such files was opened, and behind each step, the power never going.
func ordersOf(t *testing.T, room int, files []api.File, steps []step) [][]string {
	t.Helper()
	d, _ := disk.Lay(room, files)
	m, e := modelOpen(d, 1)
	wantE(t, "the model", e, api.OK)
	orders := [][]string{slices.Clone(m.order)}
	for _, x := range steps {
		x.do(m)
		orders = append(orders, slices.Clone(m.order))
	}
	return orders
}

// wantDead fails, if any call is answered otherwise than with ErrPower and zero values, or does an act.
func wantDead(t *testing.T, what string, x teller, h *disk.Hand) {
	t.Helper()
	acts := h.Acts()
	for range 2 {
		got := lookDead(x)
		if want := lookDead(dead{}); got != want {
			t.Fatalf("%s: dead: %s; want %s", what, got, want)
		}
	}
	if h.Acts() != acts {
		t.Fatalf("%s: dead: %d acts", what, h.Acts()-acts)
	}
}

// lookDead tells what every call answers, right ones and wrong ones.
func lookDead(x teller) string {
	out := ""
	for _, key := range []string{"", "k"} {
		a, e1 := x.Register(key)
		b, e2 := x.Members(key)
		c, e3 := x.Count(key)
		d, e4 := x.Items(key)
		out += tell(a, e1, b, e2, c, e3, d, e4)
		for _, kind := range []int{0, 1, 4, 5} {
			a, e1 := x.Find(kind, key)
			b, e2 := x.At(nil, kind, key)
			c, e3 := x.At([]api.Hash{{1}}, kind, key)
			out += tell(a, e1, b, e2, c, e3)
		}
	}
	for _, b := range [][]byte{nil, sealed(key7(), 8, 1, []byte{3, 0}), blocksTo(1, made("a")), letter(2, 1, helloMsg(nil, nil)), blocksTo(3, made("a")), arkOf(), arkOf(made("a")), {1}} {
		a, t1, e1 := x.Deliver(b)
		t2, e2 := x.Import(b)
		out += tell(a, t1, e1, t2, e2)
	}
	for _, to := range []int{-1, 0, 1, 2, 9} {
		a, e := x.Tick(to)
		out += tell(a, e)
	}
	a, e1 := x.Heads()
	b, e2 := x.Held()
	c, e3 := x.Waiting()
	d, e4 := x.Cells()
	f, e5 := x.Root()
	g, e6 := x.Export()
	h, e7 := x.Block(api.Hash{})
	i, e8 := x.Commit()
	j, e9 := x.Merge()
	out += tell(a, e1, b, e2, c, e3, d, e4, f, e5, g, e6, h, e7, i, e8, j, e9)
	return out + tell(x.Begin(), x.Do(put("a", "x")), x.Do(api.Op{}), x.Abort())
}

// dead is what a replica answers whose power is gone.
type dead struct{}

func (dead) Begin() api.Errno                          { return api.ErrPower }
func (dead) Do(api.Op) api.Errno                       { return api.ErrPower }
func (dead) Commit() (h api.Hash, e api.Errno)         { return h, api.ErrPower }
func (dead) Abort() api.Errno                          { return api.ErrPower }
func (dead) Merge() (h api.Hash, e api.Errno)          { return h, api.ErrPower }
func (dead) Register(string) ([]string, api.Errno)     { return nil, api.ErrPower }
func (dead) Members(string) ([]string, api.Errno)      { return nil, api.ErrPower }
func (dead) Count(string) (int64, api.Errno)           { return 0, api.ErrPower }
func (dead) Items(string) ([]api.Item, api.Errno)      { return nil, api.ErrPower }
func (dead) Cells() ([]api.Cell, api.Errno)            { return nil, api.ErrPower }
func (dead) Root() (h api.Hash, e api.Errno)           { return h, api.ErrPower }
func (dead) Find(int, string) (api.Witness, api.Errno) { return api.Witness{}, api.ErrPower }
func (dead) At([]api.Hash, int, string) (api.Cell, api.Errno) {
	return api.Cell{}, api.ErrPower
}
func (dead) Heads() ([]api.Hash, api.Errno)       { return nil, api.ErrPower }
func (dead) Held() ([]api.Hash, api.Errno)        { return nil, api.ErrPower }
func (dead) Waiting() ([]api.Hash, api.Errno)     { return nil, api.ErrPower }
func (dead) Block(api.Hash) ([]byte, api.Errno)   { return nil, api.ErrPower }
func (dead) Tick(int) ([]byte, api.Errno)         { return nil, api.ErrPower }
func (dead) Export() ([]byte, api.Errno)          { return nil, api.ErrPower }
func (dead) Import([]byte) (api.Taken, api.Errno) { return api.Taken{}, api.ErrPower }
func (dead) Deliver([]byte) ([][]byte, api.Taken, api.Errno) {
	return nil, api.Taken{}, api.ErrPower
}

// hope is what may be there when the power has come again: the first ones of order, at least so many.
type hope struct {
	order []string
	sure  int
}

// run tells a replica these steps, the power going at an act, if it comes to that; what the hand has then, and what may be hoped for.
func run(t *testing.T, room int, files []api.File, steps []step, orders [][]string, fuse int) (*disk.Hand, hope) {
	t.Helper()
	d, h := disk.Lay(room, files)
	h.Fuse(fuse)
	r, e := replica.Open(d, 1, key7())
	if e != api.OK {
		if r != nil || e != api.ErrPower || !h.Out() {
			t.Fatalf("Open, the power going at act %d: %v, %d", fuse, r, e)
		}
		return h, hope{orders[0], len(orders[0])}
	}
	for i, x := range steps {
		what := fmt.Sprintf("step %d, %s, the power going at act %d", i, x.what, fuse)
		e := x.do(r)
		if (e == api.ErrPower) != h.Out() {
			t.Fatalf("%s: %d, the power gone: %v", what, e, h.Out())
		}
		if e == api.ErrPower {
			wantDead(t, what, r, h)
			_, g := h.Copy()
			h.Crash(nil)
			wantDead(t, what+", the power having come again", r, h)
			return g, hope{orders[i+1], len(orders[i])}
		}
		wantHeld(t, what, r, orders[i+1]...)
		wantKept(t, what, h, hope{orders[i+1], len(orders[i+1])}, 0) // the power goes between two calls
	}
	return h, hope{orders[len(steps)], len(orders[len(steps)])}
}

// unsafe tells how many bytes aren't safe, of the file that has most of them.
func unsafe(h *disk.Hand) int {
	n := 0
	for _, f := range h.Files() {
		n = max(n, len(f.Bytes)-f.Safe)
	}
	return n
}

// wantKept lets the power come again, so many of each file's unsafe bytes staying, on a copy of a disk, and fails, if something else is there than may be hoped for; it tells how many there are.
func wantKept(t *testing.T, what string, h *disk.Hand, hoped hope, keep int) int {
	t.Helper()
	what = fmt.Sprintf("%s, %d bytes kept", what, keep)
	d, g := h.Copy()
	g.Crash(slices.Repeat([]int{keep}, len(h.Files())))
	_, before := g.Copy()
	r, e := replica.Open(d, 1, key7())
	acts := g.Acts() - before.Acts()
	if r == nil || e != api.OK {
		t.Fatalf("%s: Open: %d", what, e)
	}
	n := len(must2(t, r.Held))
	if n < hoped.sure || n > len(hoped.order) {
		t.Fatalf("%s: %d are held; want %d to %d", what, n, hoped.sure, len(hoped.order))
	}
	wantHeld(t, what, r, hoped.order[:n]...)
	wantWaiting(t, what, r)
	wantHeld(t, what+", opened once more", open(t, d), hoped.order[:n]...)
	for fuse := range acts {
		d, g := before.Copy()
		g.Fuse(fuse)
		if r, e := replica.Open(d, 1, key7()); r != nil || e != api.ErrPower {
			t.Fatalf("%s: Open, the power going at act %d: %d", what, fuse, e)
		}
		g.Crash(slices.Repeat([]int{keep}, len(h.Files())))
		wantHeld(t, fmt.Sprintf("%s, the power gone at act %d of Open", what, fuse), open(t, d), hoped.order[:n]...)
	}
	return n
}

// wantCrashes fails, if behind the power's going at any act of these steps, or at none, whatever of the unsafe bytes stays (of keeps a step apart), something else is there than may be hoped for.
func wantCrashes(t *testing.T, room int, files []api.File, apart int, steps ...step) {
	t.Helper()
	orders := ordersOf(t, room, files, steps)
	for fuse, more := 0, true; more; fuse++ {
		h, hoped := run(t, room, files, steps, orders, fuse)
		more = h.Out()
		what := fmt.Sprintf("the power gone at act %d", fuse)
		least, most := wantKept(t, what, h, hoped, 0), wantKept(t, what, h, hoped, unsafe(h))
		for keep := apart; keep < unsafe(h); keep += apart {
			if n := wantKept(t, what, h, hoped, keep); n < least || n > most {
				t.Errorf("%s: %d are held with %d bytes kept, %d with none, %d with all", what, n, keep, least, most)
			}
		}
	}
}

// few tells some blocks: b of a, c of b and x, y of c; w waits for nobody's.
func few() (a, b, c, x, y, w string) {
	a, x = made("a"), made("x")
	b = made("b", a)
	c = made("c", b, x)
	return a, b, c, x, made("y", c), made("w", made("nobody's"))
}

// P22.4: commits, each byte.
func TestCrashCommit(t *testing.T) {
	a, _, _, x, _, _ := few()
	for _, files := range [][]api.File{nil, journalOf(a), journalOf(a, x), {seg(0, append(framesOf(a), 1))}, {seg(0, nil)}} {
		wantCrashes(t, 1<<20, files, 1, commits(put("a", "x")), commits(), ticks(), commits(incr("n", 1), add("s", "t")))
	}
}

// P22.4: merges, each byte.
func TestCrashMerge(t *testing.T) {
	a, b, _, x, _, _ := few()
	for _, l := range [][]string{{a, x}, {a, b, x, made("z")}} {
		wantCrashes(t, 1<<20, journalOf(l...), 1, merges(), commits(), merges(), commits(put("a", "y")))
	}
	wantCrashes(t, 1<<20, journalOf(wide(66)...), 97, merges(), merges())
}

// P22.4: blocks that are delivered, some of which wait, follow others, are known or refused; each byte of some.
func TestCrashDeliver(t *testing.T) {
	a, b, c, x, y, w := few()
	wantCrashes(t, 1<<20, nil, 1, delivers(b), delivers(a))
	wantCrashes(t, 1<<20, journalOf(a), 7, delivers(y, w, c), delivers(a, x, "\x00", b), delivers(c, y), ticks(), commits(), delivers(made("nobody's")))
	wantCrashes(t, 1<<20, nil, 11, delivers(y), delivers(c), delivers(b), delivers(x), delivers(misfit(1, made("m", a))), delivers(a))
}

// P22.4: arks that are taken in, with followers; into one that has some of them.
func TestCrashImport(t *testing.T) {
	a, b, c, x, y, w := few()
	wantCrashes(t, 1<<20, nil, 5, imports(a, b, x), imports(a, b, x, c))
	wantCrashes(t, 1<<20, journalOf(x), 7, delivers(y, w), imports(a, b, x, c), commits(), imports(), imports(a, made("nobody's")))
}

// P22.4: what follows a commit is taken with it, or isn't.
func TestCrashFollowers(t *testing.T) {
	a, _, _, x, _, _ := few()
	ops := []api.Op{put("a", "x")}
	own := child(1, ops, a, x)
	y := made("y", own)
	wantCrashes(t, 1<<20, journalOf(a, x), 3, delivers(made("z", y), y), commits(ops...), commits())
	merged := child(1, nil, a, x)
	wantCrashes(t, 1<<20, journalOf(a, x), 3, delivers(made("z", merged)), merges(), commits())
}

// P22.4: where room ends.
func TestCrashRoom(t *testing.T) {
	a, b, c, x, y, w := few()
	room := len(framesOf(a, b, c, x))
	wantCrashes(t, room, journalOf(a), 9, imports(a, b, x, c, y), commits(), delivers(w, y), commits(put("a", "more")))
	wantCrashes(t, room-10, journalOf(a), 9, imports(a, b, x, c, y), commits(), delivers(y, c), merges())
}

// P22.4: over several segments.
func TestCrashSegments(t *testing.T) {
	big := func(mark string, parents ...string) string { return made(mark+strings.Repeat(".", 40000), parents...) }
	a := big("a")
	b := big("b", a)
	c := big("c", b)
	wantCrashes(t, 1<<20, nil, 20011, delivers(c, b), commits(put("k", strings.Repeat("t", 30000))), delivers(a), merges(), imports(a, big("y")), commits())
	wantCrashes(t, len(framesOf(a, b, c))+100, journalOf(a), 20011, delivers(b, big("y")), commits(put("k", strings.Repeat("t", 50000))), delivers(c), merges())
}

// P22.4: a disk whose store is cut when it is opened.
func TestCrashCut(t *testing.T) {
	a, b, c, x, y, _ := few()
	for _, files := range [][]api.File{
		{seg(0, framesOf(a, c, b, x))},
		{seg(0, framesOf(a, b)), seg(1, framesOf(c, x)), seg(2, framesOf(y)), seg(3, append(framesOf(made("z")), 1))},
		{seg(0, framesOf("\x00", a))},
		{seg(0, framesOf(a, b, a, x))},
	} {
		wantCrashes(t, 1<<20, files, 5, commits(put("a", "x")), delivers(x, c), merges())
	}
}

// P22.4: any scripts; and what is opened behind a crash is told more, and crashes again.
func TestCrashWords(t *testing.T) {
	r := chance()
	for range 40 {
		files, pool := []api.File{}, somePool(r, one(r, 30, 30, 9000))
		for range 5 {
			steps := []step{}
			for range 1 + r.IntN(6) {
				l := mixed(r, pool)[:1+r.IntN(5)]
				steps = append(steps, one(r, commits(put("a", fmt.Sprint(r.Uint32()))), merges(), ticks(), delivers(l...), delivers(l...), imports(sorted(pool[:r.IntN(len(pool))]...)...)))
			}
			room := one(r, 2000, 1<<20)
			orders := ordersOf(t, room, files, steps)
			h, hoped := run(t, room, files, steps, orders, r.IntN(12))
			wantKept(t, "any", h, hoped, r.IntN(1<<20))
			keep := []int{}
			for range h.Files() {
				keep = append(keep, r.IntN(1<<20))
			}
			h.Crash(keep)
			files = h.Files()
		}
	}
}
