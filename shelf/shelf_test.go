package shelf_test

import (
	"fmt"
	"slices"
	"strings"
	"testing"

	"pleach/api"
	"pleach/node"
	"pleach/shelf"
)

// The blocks of the chapter's transactions, and of some beside them.
var (
	a    = made("a", 1)
	b    = made("b", 2, a)
	c    = made("c", 3, b)
	d    = made("d", 3, a) // its clock doesn't fit
	a2   = made("a2", 1)
	a3   = made("a3", 1)
	f    = made("f", 4, a, c, a2) // its parents have unlike clocks
	gone = made("gone", 1)        // nobody has it, mostly
)

// with tells a shelf without a keeper that was handed these blocks.
func with(l ...string) *shelf.Shelf {
	s := shelf.New(nil)
	for _, b := range l {
		s.Take([]byte(b))
	}
	return s
}

// look tells all that a shelf tells, but for what Take answers.
func look(s *shelf.Shelf) string {
	t := &strings.Builder{}
	fmt.Fprintf(t, "%d held %x, heads %x, waiting %x, missing %x", s.Len(), s.Order(), s.Heads(), s.Waiting(), s.Missing())
	for _, h := range slices.Concat(s.Order(), s.Waiting(), s.Missing()) {
		b, e := s.Block(h)
		x, f := s.Entry(h)
		fmt.Fprintf(t, "; %v %v %x %d %v %d", s.Has(h), s.Waits(h), b, e, x, f)
	}
	for i, x := range s.Past().All() {
		fmt.Fprintf(t, "; %d %v", i, x)
	}
	return t.String()
}

// wantTaken fails, if a Take answered otherwise.
func wantTaken(t *testing.T, what string, got api.Taken, err error, want api.Taken) {
	t.Helper()
	if err != nil || !sameTaken(got, want) {
		t.Errorf("%s: %s; want %s", what, showTaken(got, err), showTaken(want, nil))
	}
}

// wantTook fails, if a block isn't taken with just these followers, and these lost.
func wantTook(t *testing.T, s *shelf.Shelf, b string, followers []string, lost ...string) {
	t.Helper()
	got, err := s.Take([]byte(b))
	wantTaken(t, "Take", got, err, api.Taken{How: api.Took, IDs: hashesOf(append([]string{b}, followers...)), Lost: hashesOf(lost)})
}

// wantWaits fails, if a block doesn't wait, or others are lost.
func wantWaits(t *testing.T, s *shelf.Shelf, b string, lost ...string) {
	t.Helper()
	got, err := s.Take([]byte(b))
	wantTaken(t, "Take", got, err, api.Taken{How: api.Waits, Lost: hashesOf(lost)})
}

// wantKnown fails, if a block isn't known, or if Take of it changes anything.
func wantKnown(t *testing.T, s *shelf.Shelf, b string) {
	t.Helper()
	was := look(s)
	got, err := s.Take([]byte(b))
	wantTaken(t, "Take", got, err, api.Taken{How: api.Known})
	if look(s) != was {
		t.Error("Take of what is known has changed something")
	}
}

// wantRefused fails, if a block isn't refused so, or if something has changed then.
func wantRefused(t *testing.T, s *shelf.Shelf, b string, want error) {
	t.Helper()
	was := look(s)
	got, err := s.Take([]byte(b))
	if !sameError(err, want) || !sameTaken(got, api.Taken{}) {
		t.Errorf("Take: %s; want %v", showTaken(got, err), want)
	}
	if look(s) != was {
		t.Errorf("a Take that was refused with %v has changed something", err)
	}
}

// wantList fails, if hashes aren't those of these blocks.
func wantList(t *testing.T, what string, got []api.Hash, want ...string) {
	t.Helper()
	if !slices.Equal(got, hashesOf(want)) {
		t.Errorf("%s: %s; want %s", what, show(got), show(hashesOf(want)))
	}
}

// wantAll fails, if a shelf holds others than these, in the one order, or others wait, the oldest first.
func wantAll(t *testing.T, s *shelf.Shelf, order []string, waiting ...string) {
	t.Helper()
	wantList(t, "Order", s.Order(), order...)
	wantList(t, "Waiting", s.Waiting(), waiting...)
	if s.Len() != len(order) || s.Past().Len() != len(order) {
		t.Errorf("Len: %d; of Past: %d; want %d", s.Len(), s.Past().Len(), len(order))
	}
	for _, b := range order {
		wantHeld(t, s, b)
	}
	for _, b := range waiting {
		wantAbsent(t, s, hashOf(b))
		if !s.Waits(hashOf(b)) {
			t.Errorf("%s doesn't wait", show(hashesOf([]string{b})))
		}
	}
}

// wantHeld fails, if a block isn't held, by all that is told of it.
func wantHeld(t *testing.T, s *shelf.Shelf, b string) {
	t.Helper()
	h := hashOf(b)
	got, e := s.Block(h)
	x, f := s.Entry(h)
	if !s.Has(h) || s.Waits(h) || e != api.OK || string(got) != b || f != api.OK || x.ID != h || !node.Same(x.Node, nodeOf(b)) {
		t.Errorf("%s isn't held as it came: %v, %v, %d, %d", show([]api.Hash{h}), s.Has(h), s.Waits(h), e, f)
	}
}

// wantAbsent fails, if the transaction of a hash is held, by all that is told of it.
func wantAbsent(t *testing.T, s *shelf.Shelf, h api.Hash) {
	t.Helper()
	b, e := s.Block(h)
	x, f := s.Entry(h)
	if s.Has(h) || e != api.ErrAbsent || len(b) != 0 || f != api.ErrAbsent || x.ID != (api.Hash{}) || !node.Same(x.Node, api.Node{}) {
		t.Errorf("%s: %v, %d, %d", show([]api.Hash{h}), s.Has(h), e, f)
	}
}

// wantGone fails, if the transaction of a block is held, or waits.
func wantGone(t *testing.T, s *shelf.Shelf, l ...string) {
	t.Helper()
	for _, b := range l {
		wantAbsent(t, s, hashOf(b))
		if s.Waits(hashOf(b)) {
			t.Errorf("%s waits", show(hashesOf([]string{b})))
		}
	}
}

// P12.1: the chapter's examples without a keeper.
func TestExamples(t *testing.T) {
	s := shelf.New(nil)
	wantWaits(t, s, c)
	wantWaits(t, s, b)
	wantList(t, "Missing", s.Missing(), a)
	wantTook(t, s, a, []string{b, c})
	wantList(t, "Heads", s.Heads(), c)
	wantAll(t, s, []string{a, b, c})
	wantKnown(t, s, b)

	s = shelf.New(nil)
	wantWaits(t, s, d)
	wantTook(t, s, a, nil, d)
	wantRefused(t, s, d, api.ErrClock)

	wantRefused(t, s, "", &api.Bad{Why: api.ErrShort})
}

// P12.1: an empty shelf tells nothing, but tells it; what isn't there is absent.
func TestEmpty(t *testing.T) {
	s := shelf.New(nil)
	wantAll(t, s, nil)
	wantList(t, "Heads", s.Heads())
	wantList(t, "Missing", s.Missing())
	wantGone(t, s, a, "")
	wantAbsent(t, s, api.Hash{})
	if s.Waits(api.Hash{}) {
		t.Error("the zero hash waits")
	}
	p := s.Past()
	if p == nil || p.Len() != 0 || len(p.Heads()) != 0 || p.Number(hashOf(a)) != -1 {
		t.Error("Past of nothing")
	}
	if q := with(b, c).Past(); q == nil || q.Len() != 0 {
		t.Error("Past where all wait")
	}
}

// P12.1: what is no block is refused with the error of node.Entry, as it is, its place too, whatever the shelf has.
func TestNoBlock(t *testing.T) {
	rows := []string{"", "\x02", "\x00", "\x01", "\x01\x09", "\x01\x00", "\x01\x01\x00", "\x01\x01\x81\x20", "\x01\x01\x81\x00\x00\x00", "\x01\x01\x01\x01", "\x01\x01\x02\x00", "\x01\x01\x02\x41"}
	for i := range len(f) {
		rows = append(rows, f[:i])
	}
	wrong := f[:4] + f[36:68] + f[4:36] + f[68:] // its first two parents have changed places
	rows = append(rows, a+"\x00", f+"\x00", b+b, wrong, strings.Repeat(a, 10), a[:len(a)-1]+"\xff\xff", strings.Repeat("\x01", api.MaxNode), strings.Repeat("\x01", api.MaxNode+1), strings.Repeat("\x02", 2*api.MaxNode))
	shelves := []*shelf.Shelf{with(), with(a, b, d), with(b, c), with(a, c, f)}
	for _, row := range rows {
		_, want := node.Entry([]byte(row))
		if want == nil {
			t.Fatalf("%x is a block", row)
		}
		for _, s := range shelves {
			wantRefused(t, s, row, want)
		}
	}
	wantRefused(t, shelves[1], string(append([]byte(a), 7)), &api.Bad{Why: api.ErrRest, At: len(a)})
	wantRefused(t, shelves[2], strings.Repeat("\x01", api.MaxNode+1), &api.Bad{Why: api.ErrBytes, At: api.MaxNode})
	if _, err := with().Take(nil); !sameError(err, &api.Bad{Why: api.ErrShort}) {
		t.Errorf("nil: %v", err)
	}
}

// P12.1: what is held or waits is known, whichever it is; one that waits doesn't come to be the youngest by that.
func TestKnown(t *testing.T) {
	s := with(a, b, f, made("g", 2, gone))
	for range 2 {
		for _, x := range []string{f, a, made("g", 2, gone), b} {
			wantKnown(t, s, x)
		}
	}
	wantList(t, "Waiting", s.Waiting(), f, made("g", 2, gone))
	s.Take([]byte(c))
	wantTook(t, s, a2, []string{f})
	for _, x := range []string{a, b, c, a2, f} {
		wantKnown(t, s, x)
	}
}

// P12.1: one that was lost, or refused, isn't known: it is taken anew.
func TestLostAgain(t *testing.T) {
	s := with(d, a)
	wantGone(t, s, d)
	for range 3 {
		wantRefused(t, s, d, api.ErrClock)
	}
	late := made("late", 4, d)
	wantWaits(t, s, late)
	wantRefused(t, s, d, api.ErrClock)
	wantAll(t, s, []string{a}, late)
	wantList(t, "Missing", s.Missing(), d)
}

// P12.1: a clock is one more than the greatest of the parents', not than that of the first or the last one; 1 without parents.
func TestClock(t *testing.T) {
	for clock := 2; clock < 8; clock++ {
		s := with(a, b, c, a2)
		y := made("y", clock, a, c, a2)
		if clock == 4 {
			wantTook(t, s, y, nil)
			wantList(t, "Heads", s.Heads(), y)
		} else {
			wantRefused(t, s, y, api.ErrClock)
			wantGone(t, s, y)
		}
		s = with(y, b, c, a2)
		if clock == 4 {
			wantTook(t, s, a, []string{b, c, y})
		} else {
			wantTook(t, s, a, []string{b, c}, y)
			wantGone(t, s, y)
		}
	}
	wantRefused(t, with(a, b), made("y", api.MaxNodes, a, b), api.ErrClock)
}

// P12.1: while a parent lacks, whatever clock one has, it waits.
func TestWaitsWithAnyClock(t *testing.T) {
	s := with(a, b, c)
	for _, clock := range []int{2, 3, 4, 5, 4096} {
		wantWaits(t, s, made("y", clock, b, gone))
	}
	wantTook(t, s, gone, []string{made("y", 3, b, gone)}, made("y", 2, b, gone), made("y", 4, b, gone), made("y", 5, b, gone), made("y", 4096, b, gone))
	wantList(t, "Waiting", s.Waiting())
}

// P12.1: of followers that are ready the oldest is taken, each time anew: one that has come to be ready goes ahead of a younger one that was ready before.
func TestFollowersInOrder(t *testing.T) {
	c2, d2, b2 := made("c2", 3, b), made("d2", 2, a), made("b2", 2, a)
	s := with(c2, c, b, d2, b2, f)
	wantList(t, "Missing", s.Missing(), sortBlocks(a, a2)...)
	wantTook(t, s, a, []string{b, c2, c, d2, b2})
	wantTook(t, s, a2, []string{f})
	wantList(t, "Waiting", s.Waiting())

	s = with(b2, d2, c, c2, b)
	wantTook(t, s, a, []string{b2, d2, b, c, c2})

	row := []string{a}
	for i := range 64 {
		row = append(row, made(fmt.Sprint(i), i+2, row[i]))
	}
	back := slices.Clone(row[1:])
	slices.Reverse(back)
	s = with(back...)
	wantTook(t, s, a, row[1:])
	wantAll(t, s, row)
}

// P12.1: a follower that is lost lets those go on that don't hang on it; those that do wait on, and miss it.
func TestLostFollowers(t *testing.T) {
	late, good, two := made("late", 4, d), made("good", 2, a), made("two", 5, a)
	s := with(late, d, c, two, good, b)
	wantTook(t, s, a, []string{good, b, c}, d, two)
	wantAll(t, s, sortOrder(a, b, c, good), late)
	wantList(t, "Missing", s.Missing(), d)
	wantGone(t, s, d, two)
}

// P12.1: missing are parents of waiting ones that neither are held nor wait, each once, rising.
func TestMissing(t *testing.T) {
	s := with(a, f)
	wantList(t, "Missing", s.Missing(), sortBlocks(c, a2)...)
	s.Take([]byte(c))
	wantList(t, "c waits itself", s.Missing(), sortBlocks(b, a2)...)
	wantWaits(t, s, made("y", 5, f, b, gone))
	wantWaits(t, s, made("z", 5, f, b, a2))
	wantList(t, "each once", s.Missing(), sortBlocks(b, a2, gone)...)
	s.Take([]byte(a2))
	wantList(t, "a2 is held", s.Missing(), sortBlocks(b, gone)...)
	wantTook(t, s, b, []string{c, f, made("z", 5, f, b, a2)})
	wantList(t, "one waits still", s.Missing(), gone)
	wantTook(t, s, gone, []string{made("y", 5, f, b, gone)})
	wantList(t, "none waits", s.Missing())
}

// P12.1: the block and the entry are told of what is held alone, all of it, as it came.
func TestBlockAndEntry(t *testing.T) {
	y := blockOf(api.Node{Author: 8, Clock: 2, Parents: hashesOf([]string{a}), Ops: []api.Op{
		{Kind: api.OpPut, Key: "k", Text: "v"}, {Kind: api.OpIncr, Key: "n", N: -7}, {Kind: api.OpInsert, Key: "l", Text: "x"},
		{Kind: api.OpInsert, Key: "l", Text: "y", At: api.Ident{Op: 3}}, {Kind: api.OpDelete, Key: "l", At: api.Ident{Node: hashOf(a), Op: 1}},
	}})
	s := with(y, f)
	wantAll(t, s, nil, y, f)
	s.Take([]byte(a))
	wantAll(t, s, []string{a, y}, f)
	wantGone(t, s, a3, gone, "")
	wantAbsent(t, s, api.Hash{})
	most := api.Node{Author: 1, Clock: 1}
	for range api.MaxOps {
		most.Ops = append(most.Ops, api.Op{Kind: api.OpPut, Key: "k", Text: strings.Repeat("v", 1000)})
	}
	s = with(blockOf(most))
	wantAll(t, s, []string{blockOf(most)})
}

// P12.1: heads rise; the order is the one order; Past has the same entries, numbers and heads.
func TestHeadsAndOrder(t *testing.T) {
	l := []string{a, b, c, a2, a3, f, made("y", 2, a3), made("z", 2, a3, a2)}
	s := with(l...)
	want := &model{held: l}
	wantAll(t, s, want.order())
	if !slices.Equal(s.Heads(), want.heads()) || len(s.Heads()) != 3 {
		t.Errorf("Heads: %s", show(s.Heads()))
	}
	p := s.Past()
	for i, b := range want.order() {
		if x, e := p.Entry(i); e != api.OK || x.ID != hashOf(b) || !node.Same(x.Node, nodeOf(b)) {
			t.Errorf("Past: entry %d: %s, %d", i, show([]api.Hash{x.ID}), e)
		}
	}
	if !slices.Equal(p.Heads(), s.Heads()) || !p.Sees(p.Number(hashOf(a)), p.Number(hashOf(f))) || p.Sees(p.Number(hashOf(a3)), p.Number(hashOf(f))) {
		t.Error("Past: heads, or who has seen whom")
	}
}

// sortBlocks tells blocks by their hashes, rising.
func sortBlocks(l ...string) []string {
	out := []string{}
	for _, h := range rising(hashesOf(l)) {
		b, _ := find(l, h)
		out = append(out, b)
	}
	return out
}

// sortOrder tells blocks in the one order.
func sortOrder(l ...string) []string { return (&model{held: l}).order() }
