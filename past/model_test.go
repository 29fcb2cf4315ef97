package past_test

import (
	"math/rand/v2"
	"slices"
	"testing"

	"pleach/api"
	"pleach/past"
)

// some tells some of hashes, in whatever order, some of them twice.
func some(r *rand.Rand, l []api.Hash) []api.Hash {
	out := []api.Hash{}
	for range r.IntN(4) {
		if len(l) > 0 {
			out = append(out, one(r, l...))
		}
	}
	return out
}

// wantSame fails, if a history isn't that of entries in the one order, by all that it tells of itself.
func wantSame(t *testing.T, p *past.Past, want []api.Entry) {
	t.Helper()
	if got := entries(t, p); p.Len() != len(want) || !slices.EqualFunc(got, want, same) {
		t.Fatalf("%s; want %s", showAll(got), showAll(want))
	}
	for j, y := range want {
		if x, e := p.Entry(j); e != api.OK || !same(x, y) || p.Number(y.ID) != j {
			t.Fatalf("%s: Entry(%d): %s, %d; Number: %d", showAll(want), j, showAll([]api.Entry{x}), e, p.Number(y.ID))
		}
		l := seen(want, y.ID)
		for i, x := range want {
			if p.Sees(i, j) != slices.Contains(l, x.ID) {
				t.Fatalf("%s: Sees(%d, %d): %v", showAll(want), i, j, p.Sees(i, j))
			}
		}
	}
	wantList(t, showAll(want)+": Heads", p.Heads(), last(want, ids(want))...)
}

// P11.1 to P11.5: of whatever history, in whatever order it is handed in, is told what the words say.
func TestWords(t *testing.T) {
	r := chance()
	for range 150 {
		l := graph(r, r.IntN(25))
		p := of(t, mixed(r, l)...)
		want := oneOrder(l)
		wantSame(t, p, want)
		for range 6 {
			heads := some(r, ids(l))
			wantSame(t, at(t, p, heads...), upTo(want, heads))
			old := some(r, ids(l))
			wantSince(t, p, old, heads, since(want, old, heads)...)
		}
		for range 6 {
			if len(l) > 0 {
				x, y := one(r, l...).ID, one(r, l...).ID
				wantCommon(t, p, x, y, common(want, x, y)...)
			}
		}
	}
}

// P11.2 to P11.5: a history of more entries than a few: numbers far apart have nothing to do with one another that they haven't.
func TestWordsWide(t *testing.T) {
	r := chance()
	for _, n := range []int{63, 64, 65, 130} {
		l := graph(r, n)
		p := of(t, mixed(r, l)...)
		want := oneOrder(l)
		wantSame(t, p, want)
		for range 4 {
			heads := some(r, ids(l))
			wantSame(t, at(t, p, heads...), upTo(want, heads))
			old := some(r, ids(l))
			wantSince(t, p, old, heads, since(want, old, heads)...)
			x, y := one(r, l...).ID, one(r, l...).ID
			wantCommon(t, p, x, y, common(want, x, y)...)
		}
	}
}

// spoilt tells entries with something changed, which may be wrong or not.
func spoilt(r *rand.Rand, l []api.Entry) []api.Entry {
	l = slices.Clone(l)
	for range 1 + r.IntN(3) {
		i := r.IntN(len(l))
		x := l[i]
		parents := slices.Clone(x.Node.Parents)
		switch r.IntN(9) {
		case 0:
			x.Node.Author = one(r, 0, 9, -1)
		case 1:
			x.Node.Clock += one(r, -1, 1, 5, -x.Node.Clock)
		case 2:
			parents = append(parents, one(r, l...).ID)
		case 3:
			parents = rising(append(parents, one(r, l...).ID))
			x.Node.Clock += r.IntN(2)
		case 4:
			parents = rising(append(parents, number(5000)))
		case 5:
			x.ID = one(r, l...).ID
		case 6:
			x.Node.Ops = []api.Op{{Kind: one(r, 0, 10, api.OpPut), Key: "k", N: int64(r.IntN(2))}}
		case 7:
			if len(parents) > 0 {
				parents = parents[1:]
			}
		case 8:
			l = slices.Delete(l, i, i+1)
			l = append(l, x, one(r, l...))
			continue
		}
		x.Node.Parents = parents
		l[i] = x
	}
	return l
}

// P11.1: whatever is wrong with entries, and in however many ways, what is told is what the words say.
func TestSpoilt(t *testing.T) {
	r := chance()
	told := map[api.Errno]int{}
	for range 4000 {
		l := spoilt(r, mixed(r, graph(r, 2+r.IntN(10))))
		why, i := wrong(l)
		told[why]++
		if p, e, at := past.Of(l); e != why || at != i || (p == nil) != (why != api.OK) {
			t.Fatalf("%s: %v, %d, %d; want %d, %d", showAll(l), p != nil, e, at, why, i)
		}
	}
	for _, e := range []api.Errno{api.OK, api.ErrAbsent, api.ErrState, api.ErrKind, api.ErrField, api.ErrAuthor, api.ErrClock, api.ErrParents} {
		if told[e] < 20 {
			t.Errorf("%d was told %d times alone", e, told[e])
		}
	}
}

// P11.1: hashes that name themselves and one another: whatever is taken has none that has seen itself.
func TestTangle(t *testing.T) {
	r := chance()
	for range 4000 {
		l := []api.Entry{}
		for _, h := range hashes(a, b, c, d)[:1+r.IntN(4)] {
			x := entry(h, 1+r.IntN(4))
			for _, p := range hashes(a, b, c, d) {
				if x.Node.Clock > 1 && r.IntN(3) == 0 {
					x.Node.Parents = append(x.Node.Parents, p)
				}
			}
			l = append(l, x)
		}
		l = mixed(r, l)
		why, i := wrong(l)
		p, e, at := past.Of(l)
		if e != why || at != i || (p == nil) != (why != api.OK) {
			t.Fatalf("%s: %v, %d, %d; want %d, %d", showAll(l), p != nil, e, at, why, i)
		}
		if p != nil {
			wantSame(t, p, oneOrder(l))
		}
	}
}
