package shelf_test

import (
	"fmt"
	"math/rand/v2"
	"slices"
	"strings"
	"testing"

	"pleach/api"
	"pleach/node"
	"pleach/shelf"
)

// pair is a shelf, and the model of one, each over a keeper that answers by the same script.
type pair struct {
	s      *shelf.Shelf
	m      *model
	k, k2  *keeper
	script []api.Errno // what is answered, one asking behind the other; then OK
	pool   []string    // what is handed in
	told   []string
	came   map[string]int // how often what came of a Take
}

// newPair makes both.
func newPair(script []api.Errno, pool []string) *pair {
	p := &pair{k: &keeper{}, k2: &keeper{}, script: script, pool: pool, came: map[string]int{}}
	p.k.answer = func(string) api.Errno { return p.answer(len(p.k.asked)) }
	p.k2.answer = func(string) api.Errno { return p.answer(len(p.k2.asked)) }
	p.s = shelf.New(p.k)
	p.m = &model{keep: func(b string) api.Errno { return p.k2.Keep([]byte(b)) }}
	return p
}

// answer tells what the script has for an asking, which are counted from 1 on.
func (p *pair) answer(n int) api.Errno {
	if n > len(p.script) {
		return api.OK
	}
	return p.script[n-1]
}

// take hands both the same.
func (p *pair) take(t *testing.T, row string) {
	t.Helper()
	p.told = append(p.told, show(hashesOf([]string{row})))
	x, err := p.s.Take([]byte(row))
	y, want := p.m.take(row)
	if !sameTaken(x, y) || !sameError(err, want) {
		t.Fatalf("%v: %s; want %s", p.told, showTaken(x, err), showTaken(y, want))
	}
	if !slices.Equal(p.k.asked, p.k2.asked) || !slices.Equal(p.k.kept, p.k2.kept) {
		t.Fatalf("%v: asked for %s; want %s", p.told, show(hashesOf(p.k.asked)), show(hashesOf(p.k2.asked)))
	}
	p.came[fmt.Sprintf("how %d, followers %v, lost %v, error %v", x.How, len(x.IDs) > 1, len(x.Lost) > 0, err)]++
}

// wantLists fails, if one of the lists isn't the model's.
func (p *pair) wantLists(t *testing.T) {
	t.Helper()
	for _, x := range []struct {
		what      string
		got, want []api.Hash
	}{
		{"Order", p.s.Order(), hashesOf(p.m.order())},
		{"Heads", p.s.Heads(), p.m.heads()},
		{"Waiting", p.s.Waiting(), hashesOf(p.m.wait)},
		{"Missing", p.s.Missing(), p.m.missing()},
	} {
		if !slices.Equal(x.got, x.want) {
			t.Fatalf("%v: %s: %s; want %s", p.told, x.what, show(x.got), show(x.want))
		}
	}
}

// wantSame fails, if one of the two tells another thing than the other.
func (p *pair) wantSame(t *testing.T) {
	t.Helper()
	p.wantLists(t)
	for _, row := range p.pool {
		h := hashOf(row)
		held, waits := slices.Contains(p.m.held, row), slices.Contains(p.m.wait, row)
		if p.s.Has(h) != held || p.s.Waits(h) != waits {
			t.Fatalf("%v: %s: %v, %v", p.told, show([]api.Hash{h}), p.s.Has(h), p.s.Waits(h))
		}
		if held {
			wantHeld(t, p.s, row)
		} else {
			wantAbsent(t, p.s, h)
		}
	}
	history := p.s.Past()
	if p.s.Len() != len(p.m.held) || history.Len() != len(p.m.held) || !slices.Equal(history.Heads(), p.m.heads()) {
		t.Fatalf("%v: Len: %d; of Past: %d", p.told, p.s.Len(), history.Len())
	}
	for i, row := range p.m.order() {
		if x, _ := history.Entry(i); x.ID != hashOf(row) || !node.Same(x.Node, nodeOf(row)) {
			t.Fatalf("%v: entry %d of Past: %s", p.told, i, show([]api.Hash{x.ID}))
		}
	}
}

// wantClosed fails, if what is held isn't closed, too many wait, or, of a shelf that isn't dead, one waits that lacks no parent.
func (p *pair) wantClosed(t *testing.T) {
	t.Helper()
	for _, h := range p.s.Order() {
		if x, _ := p.s.Entry(h); slices.ContainsFunc(x.Node.Parents, func(h api.Hash) bool { return !p.s.Has(h) }) {
			t.Fatalf("%v: of %s a parent isn't held", p.told, show([]api.Hash{h}))
		}
	}
	l := p.s.Waiting()
	if len(l) > api.MaxWaiting {
		t.Fatalf("%v: %d wait", p.told, len(l))
	}
	for _, h := range l {
		row, _ := find(p.pool, h)
		if !p.m.dead && !slices.ContainsFunc(nodeOf(row).Parents, func(h api.Hash) bool { return !p.s.Has(h) }) {
			t.Fatalf("%v: %s waits and lacks none", p.told, show([]api.Hash{h}))
		}
	}
}

// somePool tells a graph's blocks, some that are like one of them but for something, and what is no block.
func somePool(r *rand.Rand, n int) []string {
	l := graph(r, n)
	for range n / 4 {
		x := nodeOf(one(r, l[:n]...))
		switch r.IntN(4) {
		case 0:
			x.Clock = max(2, x.Clock+one(r, -1, 1, 2))
			x.Parents = rising(append(x.Parents, hashOf(one(r, l[:n]...))))
		case 1:
			x.Parents = rising(append(x.Parents, hashOf(gone)))
			x.Clock = max(2, x.Clock)
		case 2:
			x.Clock = 2 + r.IntN(4)
			x.Parents = hashesOf([]string{one(r, l...)})
		case 3:
			x.Author = 1 + x.Author%api.MaxReplicas
		}
		l = append(l, blockOf(x))
	}
	return append(l, "", one(r, l...)+"\x00", one(r, l...)[1:], strings.Repeat("\x01", 100))
}

// someScript tells what a keeper answers: mostly OK; now and then the power goes.
func someScript(r *rand.Rand, n int) []api.Errno {
	l := make([]api.Errno, n)
	for i := range l {
		if r.IntN(6) == 0 {
			l[i] = one(r, api.ErrRoom, api.ErrRoom, api.ErrMany, api.ErrClock, -3)
		}
	}
	if r.IntN(3) == 0 {
		l[r.IntN(n)] = api.ErrPower
	}
	return l
}

// P12.1, P12.2: whatever a shelf is handed, in whatever order, over whatever keeper, each answer, each asking, and all that it tells then, is what the words say, and what is held is closed.
func TestWords(t *testing.T) {
	r := chance()
	came := map[string]int{}
	for range 150 {
		n := 4 + r.IntN(20)
		p := newPair(someScript(r, 1+2*n), somePool(r, n))
		p.came = came
		for range 3 * n {
			p.take(t, one(r, p.pool...))
			p.wantClosed(t)
			p.wantLists(t)
		}
		p.wantSame(t)
	}
	for _, x := range []string{
		"how 1, followers false, lost false, error <nil>", "how 3, followers false, lost false, error <nil>",
		"how 2, followers false, lost false, error <nil>", "how 2, followers true, lost false, error <nil>",
		"how 2, followers false, lost true, error <nil>", "how 2, followers true, lost true, error <nil>",
		"how 0, followers false, lost false, error pleach: error 7", "how 0, followers false, lost false, error pleach: error 8",
		"how 0, followers false, lost false, error pleach: error 51", "how 0, followers false, lost false, error pleach: error 20 at 0",
	} {
		if came[x] < 20 {
			t.Errorf("%s: %d times alone", x, came[x])
		}
	}
}

// P12.1, P12.2: so many come that more than MaxWaiting would wait.
func TestWordsCrowd(t *testing.T) {
	r := chance()
	for range 4 {
		n := 150
		p := newPair(someScript(r, 2*n)[:n/3], somePool(r, n))
		for _, row := range slices.Concat(mixed(r, p.pool), mixed(r, p.pool), p.pool) {
			p.take(t, row)
		}
		p.wantClosed(t)
		p.wantSame(t)
	}
}

// P12.3: shelves that hold the same tell the same, in whatever order it came; nothing is lost where no more than MaxWaiting can wait.
func TestWhateverOrder(t *testing.T) {
	r := chance()
	for range 60 {
		l := graph(r, 1+r.IntN(60))
		want := with(l...)
		for range 4 {
			if s := with(mixed(r, slices.Concat(l, l))...); look(s) != look(want) {
				t.Fatalf("%d that came in another order: Order %s, not %s", len(l), show(s.Order()), show(want.Order()))
			}
		}
		if want.Len() != len(l) || len(want.Waiting()) != 0 {
			t.Fatalf("%d of %d are held", want.Len(), len(l))
		}
	}
}

// P12.3: so do shelves in which others wait, and over keepers: Heads, Order, blocks, histories.
func TestHoldTheSame(t *testing.T) {
	r := chance()
	for range 60 {
		n := 4 + r.IntN(30)
		pool := somePool(r, n)
		one, k := over(content, mixed(r, pool)...)
		two := with(mixed(r, k.kept)...)
		two.Take([]byte(orphan(r.IntN(5))))
		if !slices.Equal(one.Order(), two.Order()) || !slices.Equal(one.Heads(), two.Heads()) || one.Len() != two.Len() {
			t.Fatalf("Order: %s and %s", show(one.Order()), show(two.Order()))
		}
		for _, h := range one.Order() {
			a, _ := one.Block(h)
			b, _ := two.Block(h)
			if string(a) != string(b) {
				t.Fatalf("the blocks of %s", show([]api.Hash{h}))
			}
		}
		wantSameHistories(t, one, two)
	}
}

// wantSameHistories fails, if the histories of two shelves tell unlike things.
func wantSameHistories(t *testing.T, one, two *shelf.Shelf) {
	t.Helper()
	p, q := one.Past(), two.Past()
	if fmt.Sprint(slices.Collect(values(p.All()))) != fmt.Sprint(slices.Collect(values(q.All()))) || !slices.Equal(p.Heads(), q.Heads()) {
		t.Fatal("unlike histories")
	}
	for i := range p.Len() {
		for j := range p.Len() {
			if p.Sees(i, j) != q.Sees(i, j) {
				t.Fatalf("Sees(%d, %d)", i, j)
			}
		}
	}
}

// values tells the second ones of pairs.
func values[K, V any](l func(func(K, V) bool)) func(func(V) bool) {
	return func(yield func(V) bool) {
		l(func(_ K, v V) bool { return yield(v) })
	}
}

// P12.4: the blocks that Keep was answered OK for are those that are held, as they were taken; an empty shelf that is handed them so takes each, alone.
func TestKeptAgain(t *testing.T) {
	r := chance()
	for range 100 {
		n := 4 + r.IntN(30)
		p := newPair(someScript(r, 1+2*n), somePool(r, n))
		took, dead := []api.Hash{}, false
		for _, row := range mixed(r, slices.Concat(p.pool, p.pool)) {
			x, err := p.s.Take([]byte(row))
			took = append(took, x.IDs...)
			dead = dead || err == api.ErrPower
		}
		kept := hashesOf(p.k.kept)
		// When the power goes, what that call held ahead of it isn't told.
		if !slices.Equal(rising(kept), rising(p.s.Order())) || !slices.Equal(took, kept[:len(took)]) || !dead && len(took) != len(kept) {
			t.Fatalf("kept %s, held %s, took %s", show(kept), show(p.s.Order()), show(took))
		}
		again := shelf.New(nil)
		for _, row := range p.k.kept {
			wantTook(t, again, row, nil)
		}
		if !slices.Equal(again.Order(), p.s.Order()) || !slices.Equal(again.Heads(), p.s.Heads()) {
			t.Fatal("taken again, it isn't the same")
		}
		wantSameHistories(t, again, p.s)
	}
}
