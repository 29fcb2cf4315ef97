package past_test

import (
	"slices"
	"testing"

	"pleach/api"
	"pleach/past"
)

// wantSees fails, if others have seen one another: of each number those that it has seen.
func wantSees(t *testing.T, p *past.Past, want ...[]int) {
	t.Helper()
	if len(want) != p.Len() {
		t.Fatalf("%d entries, not %d", p.Len(), len(want))
	}
	for j, l := range want {
		for i := range want {
			if p.Sees(i, j) != slices.Contains(l, i) {
				t.Errorf("Sees(%d, %d): %v", i, j, p.Sees(i, j))
			}
		}
	}
}

// crossed tells a history of two, and three that have seen both of them; the last one of these has seen another one, too.
func crossed(t *testing.T) *past.Past {
	t.Helper()
	return of(t, entry(a, 1), entry(b, 1), entry(c, 2, a, b), entry(d, 2, a, b), entry(api.Hash{5}, 3, c), entry(api.Hash{6}, 3, c, d), entry(api.Hash{7}, 3, a, d))
}

// P11.3: one has seen what a way of parents leads to, by one step or more, and neither itself nor what stands beside it.
func TestSees(t *testing.T) {
	wantSees(t, four(t), nil, nil, []int{0}, []int{0, 1, 2})
	wantSees(t, crossed(t), nil, nil, []int{0, 1}, []int{0, 1}, []int{0, 1, 2}, []int{0, 1, 2, 3}, []int{0, 1, 3})
	wantSees(t, of(t, entry(a, 1), entry(b, 1), entry(c, 1)), nil, nil, nil)
	wantSees(t, of(t, entry(a, 4, b), entry(b, 3, c), entry(c, 2, d), entry(d, 1)), nil, []int{0}, []int{0, 1}, []int{0, 1, 2})
}

// P11.4: heads rise, whatever their places in the one order are.
func TestHeads(t *testing.T) {
	wantList(t, "crossed", crossed(t).Heads(), api.Hash{5}, api.Hash{6}, api.Hash{7})
	p := of(t, entry(a, 2, d), entry(b, 1), entry(c, 2, d), entry(d, 1))
	wantOrder(t, "order", p, b, d, a, c)
	wantList(t, "Heads", p.Heads(), a, b, c)
	wantList(t, "one", of(t, entry(c, 1)).Heads(), c)
	wantList(t, "a row", of(t, entry(a, 3, b), entry(b, 2, c), entry(c, 1)).Heads(), a)
	wantList(t, "one that names what its parent names", of(t, entry(a, 1), entry(b, 2, a), entry(c, 3, a, b)).Heads(), c)
}

// P11.4: heads may be named in whatever order and however often, with what they have seen.
func TestAt(t *testing.T) {
	p := crossed(t)
	e := api.Hash{5}
	for _, l := range [][]api.Hash{{c, d}, {d, c}, {c, c, d, c, d}, {d, a, c}, {c, d, a, b}, {b, a, d, c, c}} {
		q := at(t, p, l...)
		wantOrder(t, "At"+show(l), q, a, b, c, d)
		wantList(t, "Heads", q.Heads(), c, d)
		wantSees(t, q, nil, nil, []int{0, 1}, []int{0, 1})
	}
	for _, l := range [][]api.Hash{{e}, {e, c}, {e, b}, {a, b, c, e}} {
		q := at(t, p, l...)
		wantOrder(t, "At"+show(l), q, a, b, c, e)
		wantList(t, "Heads", q.Heads(), e)
		wantSees(t, q, nil, nil, []int{0, 1}, []int{0, 1, 2})
		if q.Number(d) != -1 || q.Number(e) != 3 {
			t.Errorf("Number: %d, %d", q.Number(d), q.Number(e))
		}
	}
	wantOrder(t, "At(b)", at(t, p, b), b)
	wantOrder(t, "At()", at(t, p))
	wantList(t, "At(): Heads", at(t, p).Heads())
	wantOrder(t, "all as before", p, a, b, c, d, e, api.Hash{6}, api.Hash{7})
}

// P11.4: a hash that is no entry's is told, wherever it stands; also of a history that had it once.
func TestAtAbsent(t *testing.T) {
	p := crossed(t)
	for _, l := range [][]api.Hash{{other}, {other, a}, {a, other}, {a, b, other, c}, {{}}, {a, {1, 1}}} {
		if q, e := p.At(l); q != nil || e != api.ErrAbsent {
			t.Errorf("At%s: %v, %d", show(l), q != nil, e)
		}
	}
	if q, e := at(t, p, c).At(hashes(d)); q != nil || e != api.ErrAbsent {
		t.Errorf("At(d) of At(c): %d", e)
	}
}

// P11.5: the last ones in common are those that no other one in common has seen.
func TestCommon(t *testing.T) {
	p := crossed(t)
	e, f, g := api.Hash{5}, api.Hash{6}, api.Hash{7}
	wantCommon(t, p, a, b)
	wantCommon(t, p, a, a, a)
	wantCommon(t, p, c, d, a, b)
	wantCommon(t, p, e, d, a, b)
	wantCommon(t, p, e, g, a, b)
	wantCommon(t, p, e, f, c)
	wantCommon(t, p, f, g, d)
	wantCommon(t, p, f, f, f)
	wantCommon(t, p, f, a, a)
	wantCommon(t, p, f, d, d)
	wantCommon(t, p, f, c, c)
	q := of(t, entry(d, 1), entry(c, 2, d), entry(b, 2, d), entry(a, 3, b, c), entry(e, 3, b, c))
	wantOrder(t, "falling", q, d, b, c, a, e)
	wantCommon(t, q, a, e, b, c)
	q = of(t, entry(d, 1), entry(a, 2, d), entry(b, 1), entry(e, 3, a, b), entry(f, 3, a, b))
	wantOrder(t, "not in the order of their hashes", q, b, d, a, e, f)
	wantCommon(t, q, e, f, a, b)
}

// P11.5: a hash that is no entry's is told, be it one or both.
func TestCommonAbsent(t *testing.T) {
	p := four(t)
	for _, x := range [][2]api.Hash{{a, other}, {other, a}, {other, other}, {{}, a}, {d, {}}} {
		if l, e := p.Common(x[0], x[1]); len(l) != 0 || e != api.ErrAbsent {
			t.Errorf("Common%s: %s, %d", show(x[:]), show(l), e)
		}
	}
}

// P11.5: what has come since some heads is told in the one order; what only these have isn't.
func TestSince(t *testing.T) {
	p := crossed(t)
	e, f, g := api.Hash{5}, api.Hash{6}, api.Hash{7}
	wantSince(t, p, nil, nil)
	wantSince(t, p, hashes(a), nil)
	wantSince(t, p, nil, hashes(a, b), a, b)
	wantSince(t, p, nil, hashes(g, f, e), a, b, c, d, e, f, g)
	wantSince(t, p, hashes(e), hashes(f), d, f)
	wantSince(t, p, hashes(f), hashes(e), e)
	wantSince(t, p, hashes(c), hashes(d), d)
	wantSince(t, p, hashes(d), hashes(c), c)
	wantSince(t, p, hashes(c, d), hashes(g, e, e, f), e, f, g)
	wantSince(t, p, hashes(g, g, f), hashes(f, g))
	wantSince(t, p, hashes(a), hashes(e), b, c, e)
	q := of(t, entry(a, 2, d), entry(b, 1), entry(c, 2, d), entry(d, 1))
	wantSince(t, q, nil, hashes(c, a, b), b, d, a, c)
	wantSince(t, q, hashes(b), hashes(c, a), d, a, c)
}

// P11.5: a hash that is no entry's is told, of the old heads and of the new ones.
func TestSinceAbsent(t *testing.T) {
	p := four(t)
	for _, x := range []struct{ old, now []api.Hash }{
		{hashes(other), nil}, {nil, hashes(other)}, {hashes(other), hashes(other)}, {hashes(a, other), hashes(d)}, {hashes(d), hashes(a, other, b)}, {hashes(api.Hash{}), hashes(a)},
	} {
		if l, e := p.Since(x.old, x.now); len(l) != 0 || e != api.ErrAbsent {
			t.Errorf("Since%s%s: %s, %d", show(x.old), show(x.now), show(l), e)
		}
	}
}
