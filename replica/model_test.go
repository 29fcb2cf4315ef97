package replica_test

import (
	"fmt"
	"math/rand/v2"
	"slices"
	"strings"
	"testing"

	"pleach/api"
	"pleach/disk"
	"pleach/replica"
)

// pair is a replica, and the model of one, each on a disk of its own.
type pair struct {
	author int
	d, d2  *disk.Disk
	h, h2  *disk.Hand
	r      *replica.Replica // nil, if it isn't open
	m      *model
}

// world is some pairs, what was said among them and may come to anybody, whenever, and what others hand in.
type world struct {
	t     *testing.T
	r     *rand.Rand
	pairs []*pair
	post  [][]byte
	arks  [][]byte
	pool  []string
	long  int // how many bytes a long text has
	log   []string
	came  map[string]int // how often what was answered
}

// newWorld makes pairs on disks of some room.
func newWorld(t *testing.T, r *rand.Rand, came map[string]int) *world {
	long := one(r, 30, 30, 30, 30, 30, 30, 30, 12000)
	w := &world{t: t, r: r, pool: somePool(r, long), long: long, came: came}
	for author := 1; author <= 3; author++ {
		p := &pair{author: author}
		room := one(r, 400, 1500, 3000, 100000, 1<<20)
		files := []api.File{}
		if r.IntN(3) == 0 {
			l := one(r, sorted(w.pool...), w.pool)
			files = journalOf(l[:r.IntN(min(len(l), 8))]...)
		}
		p.d, p.h = disk.Lay(room, files)
		p.d2, p.h2 = disk.Lay(room, files)
		w.pairs = append(w.pairs, p)
		w.open(p)
	}
	return w
}

// somePool tells blocks of a graph, parents ahead, some of them with long texts, and some whose clocks don't fit.
func somePool(r *rand.Rand, long int) []string {
	l := []string{}
	for i := range 14 {
		text := fmt.Sprint("pool ", r.Uint32())
		if r.IntN(4) == 0 {
			text += strings.Repeat(".", long)
		}
		parents := []string{}
		for range r.IntN(3) {
			if i > 0 {
				parents = append(parents, l[max(0, i-1-r.IntN(4))])
			}
		}
		slices.Sort(parents)
		b := child(8, []api.Op{add("b", text), put("a", text[:9]), insert("l", text[:9])}, slices.Compact(parents)...)
		if len(parents) > 0 && r.IntN(10) == 0 {
			b = misfit(1+r.IntN(3), b)
		}
		l = append(l, b)
	}
	return l
}

// wantSame fails, if replica and model have answered otherwise, have done other acts, or tell otherwise what they have.
func (w *world) wantSame(p *pair, what, got, want string) {
	w.t.Helper()
	w.log = append(w.log, fmt.Sprintf("%d: %s", p.author, what))
	if got != want {
		w.t.Fatalf("%s: %s; want %s", strings.Join(w.log, "\n"), got, want)
	}
	if p.h.Acts() != p.h2.Acts() || p.h.Out() != p.h2.Out() || !sameFiles(p.h.Files(), p.h2.Files()) {
		w.t.Fatalf("%s: %d acts, %s; want %d acts, %s", strings.Join(w.log, "\n"), p.h.Acts(), showFiles(p.h.Files()), p.h2.Acts(), showFiles(p.h2.Files()))
	}
	if p.r != nil && look(p.r) != look(p.m) {
		w.t.Fatalf("%s: %s; want %s", strings.Join(w.log, "\n"), look(p.r), look(p.m))
	}
}

// told tells a replica and its model the same.
func (w *world) told(p *pair, what string, step func(x teller) (string, api.Errno)) {
	w.t.Helper()
	if p.r == nil {
		return
	}
	got, e := step(p.r)
	want, e2 := step(p.m)
	w.wantSame(p, what, tell(got, e), tell(want, e2))
	w.came[fmt.Sprintf("%s %d", strings.Fields(what)[0], e)]++
}

// open opens both anew.
func (w *world) open(p *pair) {
	w.t.Helper()
	r, e := replica.Open(p.d, p.author, key7())
	m, e2 := modelOpen(p.d2, p.author)
	if (r == nil) != (m == nil) || (r == nil) != (e != api.OK) {
		w.t.Fatalf("%v: Open: %v, %d; want %d", w.log, r, e, e2)
	}
	p.r, p.m = r, m
	w.wantSame(p, "Open", fmt.Sprint(e), fmt.Sprint(e2))
	w.came[fmt.Sprintf("Open %d", e)]++
}

// crash lets the power of both go and come again.
func (w *world) crash(p *pair) {
	keep := []int{}
	for range p.h.Files() {
		keep = append(keep, one(w.r, 0, w.r.IntN(1<<20), -1))
	}
	p.h.Crash(keep)
	p.h2.Crash(keep)
	p.r = nil
	w.log = append(w.log, fmt.Sprintf("%d: Crash(%d)", p.author, keep))
	w.open(p)
}

// someOp tells an operation, mostly one that may be.
func (w *world) someOp(p *pair) api.Op {
	at := api.Ident{}
	items := p.m.state().Items("l")
	if len(items) > 0 && w.r.IntN(4) > 0 {
		at = one(w.r, items...).ID
	}
	text := fmt.Sprint(w.r.Uint32())
	return one(w.r, put("a", text), put("b", text), add("b", text), incr("a", int64(w.r.Uint64())), insert("l", text, at), insert("l", text, at),
		api.Op{Kind: api.OpClear, Key: "a"}, api.Op{Kind: api.OpWipe, Key: "b"}, api.Op{Kind: api.OpZero, Key: "a"}, api.Op{Kind: api.OpDelete, Key: "l", At: at},
		insert("l", text, api.Ident{Op: 1}), api.Op{Kind: one(w.r, -1, 0, 10, 11), Key: "x"}, api.Op{}, put("a", text+strings.Repeat(".", w.long)))
}

// transact tells one of the calls by which transactions are made.
func (w *world) transact(p *pair) {
	switch w.r.IntN(10) {
	case 0, 8, 9:
		w.told(p, "Begin", func(x teller) (string, api.Errno) { return "", x.Begin() })
	case 1, 2:
		o := w.someOp(p)
		w.told(p, fmt.Sprintf("Do %.60v", o), func(x teller) (string, api.Errno) { return "", x.Do(o) })
	case 3:
		w.told(p, "Abort", func(x teller) (string, api.Errno) { return "", x.Abort() })
	case 4, 5:
		w.told(p, "Merge", func(x teller) (string, api.Errno) { h, e := x.Merge(); return tell(h), e })
	default:
		w.told(p, "Commit", func(x teller) (string, api.Errno) { h, e := x.Commit(); return tell(h), e })
	}
}

// spoilt tells a row of bytes, of which now and then a byte is turned, or some are cut off.
func (w *world) spoilt(b []byte) []byte {
	b = slices.Clone(b)
	switch w.r.IntN(20) {
	case 0:
		b[w.r.IntN(one(w.r, 4, len(b)))] ^= byte(1 + w.r.IntN(255))
	case 1:
		b = b[:w.r.IntN(len(b))]
	}
	return b
}

// tick lets one say something to another one.
func (w *world) tick(p *pair) {
	to := one(w.r, 1, 2, 3, 1, 2, 3, 0, 9)
	w.told(p, fmt.Sprint("Tick ", to), func(x teller) (string, api.Errno) {
		b, e := x.Tick(to)
		if e == api.OK {
			w.post = append(w.post, b)
		}
		return tell(b), e
	})
}

// deliver lets something come to one, mostly what was said to it lately, and now and then twice.
func (w *world) deliver(p *pair) {
	b := blocksTo(p.author, mixed(w.r, w.pool)[:1+w.r.IntN(5)]...)
	if len(w.post) > 0 && w.r.IntN(4) > 0 {
		b = w.spoilt(w.post[max(0, len(w.post)-1-w.r.IntN(8))])
	}
	if len(b) > 5 && w.r.IntN(8) > 0 {
		if i := slices.IndexFunc(w.pairs, func(x *pair) bool { return x.author == int(b[5]) }); i >= 0 {
			p = w.pairs[i]
		}
	}
	if p.r == nil {
		return
	}
	p.m.short = false
	again := false
	step := func(x teller) (string, api.Errno) {
		out, taken, e := x.Deliver(b)
		w.post = append(w.post, out...)
		again = e == api.OK && len(taken.Lost) == 0 && !p.m.short
		return tell(out, taken), e
	}
	w.told(p, fmt.Sprintf("Deliver %.20x", b), step)
	if !again || w.r.IntN(2) == 0 {
		return
	}
	acts := p.h.Acts()
	w.told(p, "Deliver again", step)
	if _, taken, _ := p.r.Deliver(b); len(taken.IDs) > 0 || p.h.Acts() != acts {
		w.t.Fatalf("%v: again: %v, %d acts", w.log, taken, p.h.Acts()-acts)
	}
}

// exchange tells an ark, or takes one in.
func (w *world) exchange(p *pair) {
	if len(w.arks) == 0 || w.r.IntN(2) == 0 {
		w.told(p, "Export", func(x teller) (string, api.Errno) {
			b, e := x.Export()
			if e == api.OK {
				w.arks = append(w.arks, b)
			}
			return tell(b), e
		})
		return
	}
	b := w.spoilt(one(w.r, w.arks...))
	w.told(p, fmt.Sprintf("Import %x", hashOf(string(b))), func(x teller) (string, api.Errno) { t, e := x.Import(b); return tell(t), e })
}

// ask asks all there is, at some heads, too.
func (w *world) ask(p *pair) {
	w.told(p, "all", func(x teller) (string, api.Errno) { return lookAll(x, "a", "b", "l"), 0 })
	if p.r == nil || len(p.m.order) == 0 {
		return
	}
	heads := []api.Hash{hashOf(one(w.r, p.m.order...)), hashOf(one(w.r, slices.Concat(p.m.order, w.pool)...))}
	for kind := -1; kind < 6; kind++ {
		key := one(w.r, "a", "b", "l")
		w.told(p, "At", func(x teller) (string, api.Errno) { c, e := x.At(heads, kind, key); return tell(c), e })
	}
}

// step does something.
func (w *world) step() {
	p := one(w.r, w.pairs...)
	if p.r == nil {
		w.crash(p)
		return
	}
	switch w.r.IntN(21) {
	case 0:
		n := w.r.IntN(6) - 1
		p.h.Fuse(n)
		p.h2.Fuse(n)
		w.log = append(w.log, fmt.Sprintf("%d: Fuse(%d)", p.author, n))
	case 1:
		if p.h.Out() || w.r.IntN(4) == 0 {
			w.crash(p)
		}
	case 2:
		w.open(p)
	case 3:
		if w.r.IntN(3) == 0 {
			w.ask(p)
		}
	case 4, 20:
		w.exchange(p)
	case 5, 6, 7, 8:
		w.tick(p)
	case 9, 10, 11, 12:
		w.deliver(p)
	default:
		w.transact(p)
	}
}

// P22.1, P22.2, P22.5, P22.7, W2: whatever replicas are told, in whatever order, with much room or little, when the power goes and comes again, too: each answer, each act, what lies on the disk and all that is shown is what the words say.
func TestWords(t *testing.T) {
	r := chance()
	came := map[string]int{}
	for range 32 {
		w := newWorld(t, r, came)
		for range 140 {
			w.step()
		}
		for _, p := range w.pairs {
			w.ask(p)
		}
	}
	for call, errors := range map[string][]api.Errno{
		"Open": {0, 7}, "Begin": {0, 7, 9}, "Do": {0, 7, 9, 40, 42}, "Commit": {0, 7, 8, 9}, "Abort": {0, 7, 9}, "Merge": {0, 7, 8, 9, 220},
		"Tick": {0, 1, 7}, "Deliver": {0, 1, 5, 7, 20, 30}, "Export": {0, 7}, "Import": {0, 7, 8, 20}, "At": {0, 6, 7, 40},
	} {
		for _, e := range errors {
			if came[fmt.Sprintf("%s %d", call, e)] < 3 {
				t.Errorf("%s was answered by %d %d times alone", call, e, came[fmt.Sprintf("%s %d", call, e)])
			}
		}
	}
}
