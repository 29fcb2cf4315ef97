package past_test

import (
	"math"
	"slices"
	"testing"

	"pleach/api"
	"pleach/past"
)

// a to d rise in this order; other is none of them.
var a, b, c, d, other = api.Hash{1}, api.Hash{2}, api.Hash{3}, api.Hash{4}, api.Hash{9}

// entry tells one without operations.
func entry(h api.Hash, clock int, parents ...api.Hash) api.Entry {
	return api.Entry{ID: h, Node: api.Node{Author: 1, Clock: clock, Parents: parents}}
}

// hashes tells a list of hashes.
func hashes(l ...api.Hash) []api.Hash { return l }

// of tells the history of entries.
func of(t *testing.T, l ...api.Entry) *past.Past {
	t.Helper()
	p, e, at := past.Of(l)
	if p == nil || e != api.OK || at != 0 {
		t.Fatalf("Of: %v, %d, %d", p != nil, e, at)
	}
	return p
}

// four tells the history of the chapter's examples.
func four(t *testing.T) *past.Past {
	t.Helper()
	return of(t, entry(d, 3, b, c), entry(c, 2, a), entry(b, 1), entry(a, 1))
}

// entries tells all entries of a history.
func entries(t *testing.T, p *past.Past) []api.Entry {
	t.Helper()
	l := []api.Entry{}
	for i, x := range p.All() {
		if i != len(l) {
			t.Fatalf("All: number %d at %d", i, len(l))
		}
		l = append(l, x)
	}
	return l
}

// wantList fails, if hashes aren't those.
func wantList(t *testing.T, what string, got []api.Hash, want ...api.Hash) {
	t.Helper()
	if !slices.Equal(got, want) {
		t.Errorf("%s: %s; want %s", what, show(got), show(want))
	}
}

// wantOrder fails, if a history isn't that of these hashes, in this order, by whatever it is asked.
func wantOrder(t *testing.T, what string, p *past.Past, want ...api.Hash) {
	t.Helper()
	wantList(t, what+": All", ids(entries(t, p)), want...)
	if p.Len() != len(want) {
		t.Errorf("%s: Len: %d; want %d", what, p.Len(), len(want))
	}
	for i, h := range want {
		if x, e := p.Entry(i); e != api.OK || x.ID != h || p.Number(h) != i {
			t.Errorf("%s: Entry(%d): %s, %d; Number: %d", what, i, show(hashes(x.ID)), e, p.Number(h))
		}
	}
}

// at tells a history at heads.
func at(t *testing.T, p *past.Past, heads ...api.Hash) *past.Past {
	t.Helper()
	q, e := p.At(heads)
	if q == nil || e != api.OK {
		t.Fatalf("At(%s): %v, %d", show(heads), q != nil, e)
	}
	return q
}

// wantCommon fails, if two have other ones in common, one way round or the other.
func wantCommon(t *testing.T, p *past.Past, one, two api.Hash, want ...api.Hash) {
	t.Helper()
	for _, x := range [][2]api.Hash{{one, two}, {two, one}} {
		l, e := p.Common(x[0], x[1])
		wantList(t, "Common"+show(x[:]), l, want...)
		if e != api.OK {
			t.Errorf("Common%s: %d", show(x[:]), e)
		}
	}
}

// wantSince fails, if others have come.
func wantSince(t *testing.T, p *past.Past, old, now []api.Hash, want ...api.Hash) {
	t.Helper()
	l, e := p.Since(old, now)
	wantList(t, "Since"+show(old)+show(now), l, want...)
	if e != api.OK {
		t.Errorf("Since%s%s: %d", show(old), show(now), e)
	}
}

// wantWrong fails, if entries aren't refused so.
func wantWrong(t *testing.T, why api.Errno, which int, l ...api.Entry) {
	t.Helper()
	if p, e, i := past.Of(l); p != nil || e != why || i != which {
		t.Errorf("Of(%s): %v, %d, %d; want %d, %d", showAll(l), p != nil, e, i, why, which)
	}
}

// P11.1 to P11.5: the chapter's examples.
func TestExamples(t *testing.T) {
	p := four(t)
	wantOrder(t, "four", p, a, b, c, d)
	if p.Number(c) != 2 || p.Number(other) != -1 {
		t.Errorf("Number: %d, %d", p.Number(c), p.Number(other))
	}
	if !p.Sees(0, 2) || p.Sees(2, 0) || !p.Sees(0, 3) || p.Sees(1, 1) || p.Sees(0, 9) {
		t.Error("Sees")
	}
	wantList(t, "Heads", p.Heads(), d)
	wantOrder(t, "At(c)", at(t, p, c), a, c)
	wantList(t, "At(c): Heads", at(t, p, c).Heads(), c)
	wantOrder(t, "At()", at(t, p))
	wantList(t, "At(c, b): Heads", at(t, p, c, b).Heads(), b, c)
	wantCommon(t, p, b, c)
	wantCommon(t, p, c, d, c)
	wantCommon(t, p, d, d, d)
	wantSince(t, p, hashes(c), hashes(d), b, d)
	wantSince(t, p, hashes(d), hashes(c))
	wantSince(t, p, nil, hashes(c), a, c)
	wantWrong(t, api.ErrState, 1, entry(a, 1), entry(a, 1))
	wantWrong(t, api.ErrAbsent, 0, entry(c, 2, a))
	wantWrong(t, api.ErrClock, 1, entry(a, 1), entry(c, 3, a))
	wantWrong(t, api.ErrAuthor, 1, entry(a, 1), api.Entry{})
	if x, e := p.Entry(4); e != api.ErrRange || !same(x, api.Entry{}) {
		t.Errorf("Entry(4): %d", e)
	}
	if q, e := p.At(hashes(other)); q != nil || e != api.ErrAbsent {
		t.Errorf("At(other): %d", e)
	}
}

// P11.1: nothing is a history, too.
func TestNone(t *testing.T) {
	for _, l := range [][]api.Entry{nil, {}, make([]api.Entry, 0, 5)} {
		p := of(t, l...)
		wantOrder(t, "none", p)
		wantList(t, "Heads", p.Heads())
		wantOrder(t, "At", at(t, p))
		wantSince(t, p, nil, nil)
		if p.Number(api.Hash{}) != -1 || p.Sees(0, 0) {
			t.Error("it has one")
		}
		if _, e := p.Entry(0); e != api.ErrRange {
			t.Errorf("Entry: %d", e)
		}
		if _, e := p.Common(a, a); e != api.ErrAbsent {
			t.Errorf("Common: %d", e)
		}
		if q, e := p.At(hashes(api.Hash{})); q != nil || e != api.ErrAbsent {
			t.Errorf("At: %d", e)
		}
	}
}

// P11.1, P11.2: entries make the same history in whatever order they are handed in.
func TestEveryOrder(t *testing.T) {
	l := []api.Entry{entry(a, 1), entry(b, 1), entry(c, 2, a), entry(d, 3, b, c)}
	n := 0
	for i := range 256 {
		order := []int{i % 4, i / 4 % 4, i / 16 % 4, i / 64}
		if slices.Sort(order); !slices.Equal(order, []int{0, 1, 2, 3}) {
			continue
		}
		p := of(t, l[i%4], l[i/4%4], l[i/16%4], l[i/64])
		wantOrder(t, "four", p, a, b, c, d)
		if !p.Sees(0, 2) || !p.Sees(0, 3) || !p.Sees(1, 3) || !p.Sees(2, 3) || p.Sees(1, 2) || p.Sees(0, 1) {
			t.Error("Sees")
		}
		n++
	}
	if n != 24 {
		t.Errorf("%d orders", n)
	}
}

// P11.2: the order where it counts: one that is ready only when another is placed stands behind it, whatever its hash is; and the zero hash is a hash.
func TestOneOrder(t *testing.T) {
	wantOrder(t, "d, a of d, b, c", of(t, entry(a, 2, d), entry(b, 1), entry(c, 1), entry(d, 1)), b, c, d, a)
	wantOrder(t, "a row that falls", of(t, entry(a, 4, b), entry(b, 3, c), entry(c, 2, d), entry(d, 1)), d, c, b, a)
	wantOrder(t, "two rows", of(t, entry(a, 2, c), entry(b, 2, d), entry(c, 1), entry(d, 1)), c, a, d, b)
	p := of(t, entry(a, 1), entry(api.Hash{}, 2, a), entry(b, 3, api.Hash{}, a))
	wantOrder(t, "the zero hash", p, a, api.Hash{}, b)
	wantList(t, "At(zero)", at(t, p, api.Hash{}).Heads(), api.Hash{})
}

// P11.1: hashes are taken as they are told: they need not be those of blocks, and two entries that are the same but for the hash are two.
func TestHashesAsTold(t *testing.T) {
	p := of(t, entry(b, 1), entry(a, 1), entry(c, 2, a), entry(d, 2, a))
	wantOrder(t, "twins", p, a, b, c, d)
	wantList(t, "Heads", p.Heads(), b, c, d)
}

// P11.1: node.Check's error is told, with the number of the entry.
func TestEntryWrong(t *testing.T) {
	author, kind, field, place := entry(b, 1), entry(b, 1), entry(b, 1), entry(b, 1)
	author.Node.Author = 9
	kind.Node.Ops = []api.Op{{Kind: 10, Key: "k"}}
	field.Node.Ops = []api.Op{{Kind: api.OpClear, Key: "k", Text: "x"}}
	place.Node.Ops = []api.Op{{Kind: api.OpInsert, Key: "k", At: api.Ident{Op: 1}}}
	many, long := entry(b, 2), entry(b, 1)
	for i := range api.MaxParents + 1 {
		many.Node.Parents = append(many.Node.Parents, number(i))
	}
	for range api.MaxOps + 1 {
		long.Node.Ops = append(long.Node.Ops, api.Op{Kind: api.OpClear, Key: "k"})
	}
	for _, x := range []struct {
		wrong api.Entry
		why   api.Errno
	}{
		{author, api.ErrAuthor}, {api.Entry{}, api.ErrAuthor}, {kind, api.ErrKind}, {field, api.ErrField}, {place, api.ErrAt}, {long, api.ErrMany},
		{many, api.ErrParents}, {entry(b, 2, a, a), api.ErrParents}, {entry(b, 2, c, a), api.ErrParents},
		{entry(b, 0), api.ErrClock}, {entry(b, 2), api.ErrClock}, {entry(b, 1, a), api.ErrClock}, {entry(b, -1, a), api.ErrClock}, {entry(b, api.MaxNodes+1, a), api.ErrClock},
		{entry(b, math.MaxInt, a), api.ErrClock}, {entry(b, math.MinInt, a), api.ErrClock},
	} {
		wantWrong(t, x.why, 0, x.wrong)
		wantWrong(t, x.why, 0, x.wrong, entry(a, 1))
		wantWrong(t, x.why, 2, entry(a, 1), entry(c, 2, a), x.wrong, entry(d, 2, a))
		wantWrong(t, x.why, 0, x.wrong, x.wrong)
		wantWrong(t, x.why, 1, entry(b, 1), x.wrong)
		wantWrong(t, x.why, 2, entry(c, 2, other), entry(d, 9, a), x.wrong, api.Entry{})
	}
}

// P11.1: a hash that came ahead is told, whatever else its entry says that may be.
func TestHashTwice(t *testing.T) {
	wantWrong(t, api.ErrState, 2, entry(a, 1), entry(b, 1), entry(a, 1))
	wantWrong(t, api.ErrState, 2, entry(a, 1), entry(b, 1), entry(b, 2, a))
	wantWrong(t, api.ErrState, 1, entry(c, 2, a), entry(c, 3, a), entry(a, 1), entry(a, 1))
	wantWrong(t, api.ErrState, 3, entry(a, 1), entry(b, 1), entry(c, 1), entry(c, 2, other))
	wantWrong(t, api.ErrState, 1, entry(api.Hash{}, 1), entry(api.Hash{}, 1))
}

// P11.1: a parent that is no entry's hash is told, be it the first one, the last one or one between; a parent that stands behind is well.
func TestParentAbsent(t *testing.T) {
	wantWrong(t, api.ErrAbsent, 0, entry(d, 2, a, b, c), entry(b, 1), entry(c, 1))
	wantWrong(t, api.ErrAbsent, 0, entry(d, 2, a, b, c), entry(a, 1), entry(c, 1))
	wantWrong(t, api.ErrAbsent, 2, entry(a, 1), entry(b, 1), entry(d, 2, a, b, c))
	wantWrong(t, api.ErrAbsent, 1, entry(a, 1), entry(c, 2, api.Hash{}))
	wantWrong(t, api.ErrAbsent, 1, entry(b, 1), entry(c, 2, a), entry(d, 2, a))
	wantOrder(t, "behind", of(t, entry(d, 2, a, b, c), entry(c, 1), entry(b, 1), entry(a, 1)), a, b, c, d)
}

// P11.1: a clock is one more than the greatest of the parents', not than that of the first or the last one, and nothing else.
func TestClock(t *testing.T) {
	l := []api.Entry{entry(a, 1), entry(b, 2, a), entry(c, 1)}
	for clock := 2; clock < 6; clock++ {
		x := entry(d, clock, a, b, c)
		if clock == 3 {
			wantOrder(t, "clock 3", of(t, append(slices.Clone(l), x)...), a, b, c, d)
			continue
		}
		wantWrong(t, api.ErrClock, 3, append(slices.Clone(l), x)...)
		wantWrong(t, api.ErrClock, 0, append([]api.Entry{x}, l...)...)
	}
	wantWrong(t, api.ErrClock, 0, entry(d, api.MaxNodes, c), entry(c, 1))
	wantWrong(t, api.ErrClock, 2, entry(a, 1), entry(b, 2, a), entry(c, 2, b))
	wantWrong(t, api.ErrClock, 1, entry(a, 1), entry(c, 2, b), entry(b, 2, a), entry(d, 2, c))
}

// P11.1: an entry that names itself, and some that name one another, have no clocks that fit.
func TestRings(t *testing.T) {
	wantWrong(t, api.ErrClock, 0, entry(a, 2, a))
	wantWrong(t, api.ErrClock, 1, entry(b, 1), entry(a, 2, a, b))
	wantWrong(t, api.ErrClock, 0, entry(a, 2, b), entry(b, 2, a))
	wantWrong(t, api.ErrClock, 1, entry(a, 3, b), entry(b, 2, a))
	wantWrong(t, api.ErrClock, 0, entry(a, 2, b), entry(b, 3, a))
	wantWrong(t, api.ErrClock, 2, entry(a, 4, b), entry(b, 3, c), entry(c, 2, a))
	wantWrong(t, api.ErrClock, 0, entry(a, 2, c), entry(b, 3, a), entry(c, 4, b))
}

// P11.1: what the first going through finds is told, though it stands behind what the second would find; and of two entries the first one that is wrong.
func TestWhichIsTold(t *testing.T) {
	absent, clock, bad, twice := entry(b, 2, other), entry(c, 3, a), api.Entry{ID: d}, entry(a, 1)
	wantWrong(t, api.ErrAuthor, 3, entry(a, 1), absent, clock, bad)
	wantWrong(t, api.ErrState, 3, entry(a, 1), absent, clock, twice)
	wantWrong(t, api.ErrState, 1, entry(a, 1), twice, bad, absent)
	wantWrong(t, api.ErrAuthor, 1, entry(a, 1), bad, twice, absent)
	wantWrong(t, api.ErrAbsent, 1, entry(a, 1), absent, clock)
	wantWrong(t, api.ErrClock, 1, entry(a, 1), clock, absent)
	wantWrong(t, api.ErrAuthor, 1, entry(a, 1), api.Entry{ID: a})
	wantWrong(t, api.ErrState, 1, entry(a, 1), entry(a, 2, other))
	wantWrong(t, api.ErrAbsent, 1, entry(a, 1), entry(b, 4, a, other))
	wantWrong(t, api.ErrAbsent, 0, entry(b, 2, a, b))
	wantWrong(t, api.ErrClock, 0, entry(b, 2, b), entry(c, 2, other))
}

// P11.2: a number that no entry has is told, however far away it is; a hash likewise.
func TestNoSuchEntry(t *testing.T) {
	p := four(t)
	for _, i := range []int{-1, -4, -64, 4, 5, 63, 64, 65, 128, 4096, 1 << 32, math.MinInt, math.MaxInt} {
		if x, e := p.Entry(i); e != api.ErrRange || !same(x, api.Entry{}) {
			t.Errorf("Entry(%d): %s, %d", i, showAll([]api.Entry{x}), e)
		}
		for j := -1; j < 5; j++ {
			if p.Sees(i, j) || p.Sees(j, i) || p.Sees(i, i) {
				t.Errorf("Sees of %d and %d", i, j)
			}
		}
	}
	for _, h := range hashes(api.Hash{}, other, api.Hash{1, 1}, api.Hash{31: 1}, api.Hash{1, 31: 1}) {
		if p.Number(h) != -1 {
			t.Errorf("Number(%s): %d", show(hashes(h)), p.Number(h))
		}
	}
}

// P11.2: Entry and All tell all of an entry, as it was handed in.
func TestEntryWhole(t *testing.T) {
	x := entry(c, 2, a, b)
	x.Node.Author = 8
	x.Node.Ops = []api.Op{
		{Kind: api.OpPut, Key: "k", Text: "v"}, {Kind: api.OpIncr, Key: "n", N: -7},
		{Kind: api.OpInsert, Key: "l", Text: "x"}, {Kind: api.OpInsert, Key: "l", Text: "y", At: api.Ident{Op: 3}}, {Kind: api.OpDelete, Key: "l", At: api.Ident{Node: a, Op: 1}},
	}
	want := []api.Entry{entry(a, 1), entry(b, 1), x}
	p := of(t, x, entry(b, 1), entry(a, 1))
	for _, q := range []*past.Past{p, at(t, p, c), at(t, at(t, p, c), c, a)} {
		if l := entries(t, q); !slices.EqualFunc(l, want, same) {
			t.Errorf("All: %s", showAll(l))
		}
		for i := range want {
			if got, e := q.Entry(i); e != api.OK || !same(got, want[i]) {
				t.Errorf("Entry(%d): %s, %d", i, showAll([]api.Entry{got}), e)
			}
		}
	}
}

// P11.2: All may be left early, ranged over again, and ranged over within its own loop: each time it goes from the beginning.
func TestAll(t *testing.T) {
	p := four(t)
	all := p.All()
	for stop := range 4 {
		told := []api.Hash{}
		for i, x := range all {
			told = append(told, x.ID)
			if i == stop {
				break
			}
		}
		wantList(t, "left early", told, hashes(a, b, c, d)[:stop+1]...)
	}
	told := []api.Hash{}
	for i, x := range all {
		told = append(told, x.ID)
		for j, y := range all {
			if j > i {
				break
			}
			told = append(told, y.ID)
		}
	}
	wantList(t, "within its own loop", told, a, a, b, a, b, c, a, b, c, d, a, b, c, d)
	wantOrder(t, "again", p, a, b, c, d)
	n := 0
	for range p.All() {
		for range p.All() {
			n++
		}
	}
	if n != 16 {
		t.Errorf("each of each: %d", n)
	}
	for _, q := range []*past.Past{of(t), at(t, p)} {
		if q.All() == nil {
			t.Fatal("no iterator")
		}
		for i := range q.All() {
			t.Errorf("number %d of none", i)
		}
	}
}

// P11.2: an iterator that was called by hand goes on no further when it is told to stop.
func TestAllByHand(t *testing.T) {
	n := 0
	four(t).All()(func(int, api.Entry) bool {
		n++
		return n < 2
	})
	if n != 2 {
		t.Errorf("called %d times", n)
	}
}
