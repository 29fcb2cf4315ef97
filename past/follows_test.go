package past_test

import (
	"slices"
	"testing"

	"pleach/api"
	"pleach/past"
)

// What P11.6 says follows is held against the package's own answers alone.

// wantAlike fails, if two histories tell unlike things.
func wantAlike(t *testing.T, what string, p, q *past.Past) {
	t.Helper()
	if !slices.EqualFunc(entries(t, p), entries(t, q), same) || p.Len() != q.Len() || !slices.Equal(p.Heads(), q.Heads()) {
		t.Fatalf("%s: %s and %s", what, showAll(entries(t, p)), showAll(entries(t, q)))
	}
	for i, x := range p.All() {
		if q.Number(x.ID) != i {
			t.Fatalf("%s: Number: %d, not %d", what, q.Number(x.ID), i)
		}
		for j := range p.Len() {
			if p.Sees(i, j) != q.Sees(i, j) {
				t.Fatalf("%s: Sees(%d, %d)", what, i, j)
			}
		}
	}
}

// P11.6: an entry stands behind all that it has seen; who has seen one has seen what that has seen.
func TestBehind(t *testing.T) {
	r := chance()
	for range 100 {
		p := of(t, mixed(r, graph(r, 1+r.IntN(25)))...)
		for i := range p.Len() {
			for j := range p.Len() {
				if p.Sees(i, j) && i >= j {
					t.Fatalf("%d has seen %d", j, i)
				}
				for k := range p.Len() {
					if p.Sees(i, j) && p.Sees(j, k) && !p.Sees(i, k) {
						t.Fatalf("%d has seen %d, which has seen %d", k, j, i)
					}
				}
			}
		}
	}
}

// P11.6: in another order the same entries are the same history; at its heads it is the whole.
func TestSameHistory(t *testing.T) {
	r := chance()
	for range 100 {
		l := graph(r, r.IntN(25))
		p := of(t, l...)
		wantAlike(t, "in another order", p, of(t, mixed(r, l)...))
		wantAlike(t, "in the one order", p, of(t, entries(t, p)...))
		wantAlike(t, "at its heads", p, at(t, p, p.Heads()...))
		wantAlike(t, "at all", p, at(t, p, ids(l)...))
	}
}

// P11.6: At of At of fewer is At of the fewer; whoever has seen whom has in At, too, and the numbers are in the same order.
func TestAtOfAt(t *testing.T) {
	r := chance()
	for range 200 {
		l := graph(r, 1+r.IntN(25))
		p := of(t, l...)
		q := at(t, p, some(r, ids(l))...)
		fewer := some(r, ids(entries(t, q)))
		wantAlike(t, "At of At", at(t, q, fewer...), at(t, p, fewer...))
		wantAlike(t, "Of of what At has", q, of(t, mixed(r, entries(t, q))...))
		wantAlike(t, "At of its own heads", q, at(t, p, q.Heads()...))
		before := -1
		for i, x := range q.All() {
			at := p.Number(x.ID)
			if at <= before {
				t.Fatalf("the numbers aren't in the same order: %d behind %d", at, before)
			}
			before = at
			for j, y := range q.All() {
				if q.Sees(i, j) != p.Sees(at, p.Number(y.ID)) {
					t.Fatalf("Sees(%d, %d)", i, j)
				}
			}
		}
	}
}

// P11.6: Common of one and itself is that one; of two as the other way round; of one and one that it has seen that one.
func TestCommonFollows(t *testing.T) {
	r := chance()
	for range 100 {
		p := of(t, mixed(r, graph(r, 1+r.IntN(20)))...)
		for i, x := range p.All() {
			wantCommon(t, p, x.ID, x.ID, x.ID)
			for j, y := range p.All() {
				one, _ := p.Common(x.ID, y.ID)
				wantCommon(t, p, y.ID, x.ID, one...)
				if p.Sees(i, j) {
					wantCommon(t, p, x.ID, y.ID, x.ID)
				}
			}
		}
	}
}

// P11.6: what Since tells and what At(old) has together are what At of both has.
func TestSinceFollows(t *testing.T) {
	r := chance()
	for range 300 {
		l := graph(r, 1+r.IntN(25))
		p := of(t, l...)
		old, now := some(r, ids(l)), some(r, ids(l))
		come, e := p.Since(old, now)
		had := ids(entries(t, at(t, p, old...)))
		both := ids(entries(t, at(t, p, slices.Concat(old, now)...)))
		if e != api.OK || len(come)+len(had) != len(both) {
			t.Fatalf("%d since, %d had, %d both: %d", len(come), len(had), len(both), e)
		}
		wantList(t, "together", rising(slices.Concat(come, had)), rising(both)...)
	}
}
