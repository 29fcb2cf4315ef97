package past_test

import (
	"slices"
	"strings"
	"testing"

	"pleach/api"
	"pleach/past"
)

// fill fills a list, its spare room too, with what nobody told.
func fill[T any](l []T, x T) {
	l = l[:cap(l)]
	for i := range l {
		l[i] = x
	}
}

// fillEntry fills the lists of an entry.
func fillEntry(x api.Entry) {
	fill(x.Node.Parents, api.Hash{255, 255})
	fill(x.Node.Ops, api.Op{Kind: api.OpWipe, Key: "filled"})
}

// roomy tells a list with spare room behind it.
func roomy[T any](l []T, spare T) []T {
	whole := append(make([]T, 0, len(l)+5), l...)
	fill(whole[len(l):], spare)
	return whole
}

// apart tells entries in memory of their own, with spare room.
func apart(l []api.Entry) []api.Entry {
	out := roomy(l, entry(other, 1))
	for i, x := range out {
		out[i].Node.Parents = roomy(x.Node.Parents, api.Hash{200})
		out[i].Node.Ops = roomy(x.Node.Ops, api.Op{Kind: api.OpPut, Key: "spare"})
	}
	return out
}

// busy tells the entries of a history whose transactions do something; the last one of its heads is d.
func busy() []api.Entry {
	l := []api.Entry{entry(d, 3, b, c), entry(c, 2, a), entry(b, 2, a), entry(a, 1), entry(api.Hash{8}, 3, b, c)}
	for i := range l {
		l[i].Node.Ops = []api.Op{{Kind: api.OpPut, Key: "k", Text: strings.Repeat("v", i+1)}, {Kind: api.OpIncr, Key: "n", N: int64(i)}, {Kind: api.OpZero, Key: "n"}}
	}
	return l
}

// wantBusy fails, if a history isn't that of busy.
func wantBusy(t *testing.T, what string, p *past.Past) {
	t.Helper()
	if got, want := entries(t, p), oneOrder(busy()); !slices.EqualFunc(got, want, same) {
		t.Fatalf("%s: %v", what, got)
	}
	wantSame(t, p, oneOrder(busy()))
}

// P11.7: what is handed to Of stays as it was, spare room too, and may be written over behind it; whether it is taken or refused.
func TestHandedToOf(t *testing.T) {
	for _, l := range [][]api.Entry{busy(), {entry(b, 2, a), entry(a, 1)}, {entry(c, 2, a, b), entry(a, 1)}, {entry(c, 2, b, a)}, {entry(a, 1), entry(b, 3, a), entry(b, 1)}, nil} {
		mine := apart(l)
		past.Of(mine)
		want := apart(l)
		for i, x := range mine[:cap(mine)] {
			w := want[:cap(want)][i]
			if !same(x, w) || !slices.Equal(x.Node.Parents[:cap(x.Node.Parents)], w.Node.Parents[:cap(w.Node.Parents)]) || !slices.Equal(x.Node.Ops[:cap(x.Node.Ops)], w.Node.Ops[:cap(w.Node.Ops)]) {
				t.Errorf("%s: entry %d is changed", showAll(l), i)
			}
		}
	}
	mine := apart(busy())
	p := of(t, mine...)
	q := at(t, p, p.Heads()...)
	for _, x := range mine {
		fillEntry(x)
	}
	fill(mine, entry(other, 1))
	wantBusy(t, "written over", p)
	wantBusy(t, "written over: At", q)
}

// P11.7: lists of hashes that are handed in stay as they were, spare room too, and aren't kept.
func TestHandedHashes(t *testing.T) {
	p := of(t, busy()...)
	for _, l := range [][]api.Hash{{d, c, a, c}, {b}, {}, {d, other}, {other, a}} {
		old, now := roomy(l, api.Hash{200}), roomy(hashes(api.Hash{8}, d, d, a), api.Hash{200})
		q, e := p.At(old)
		p.Since(old, now)
		p.Since(now, old)
		wantList(t, "handed in", old[:cap(old)], append(slices.Clone(l), hashes(api.Hash{200}, api.Hash{200}, api.Hash{200}, api.Hash{200}, api.Hash{200})...)...)
		wantList(t, "handed in", now[:4], api.Hash{8}, d, d, a)
		if e == api.OK {
			was := ids(entries(t, q))
			fill(old, other)
			wantList(t, "At", ids(entries(t, q)), was...)
		}
	}
	wantBusy(t, "asked", p)
}

// P11.7: entries that are answered are new memory, their lists too: filling them changes neither the history nor another answer nor a history at heads.
func TestEntriesMemory(t *testing.T) {
	p := of(t, busy()...)
	q := at(t, p, p.Heads()...)
	r := at(t, q, d, api.Hash{8})
	for _, x := range []*past.Past{p, q, r} {
		for i := range x.Len() {
			one, _ := x.Entry(i)
			two, _ := x.Entry(i)
			fillEntry(one)
			if !same(two, oneOrder(busy())[i]) {
				t.Errorf("another answer: %v", two)
			}
			fillEntry(two)
		}
		kept := entries(t, x)
		for i, y := range x.All() {
			fillEntry(y)
			for j, z := range x.All() {
				if j != i {
					fillEntry(z)
				}
			}
		}
		if !slices.EqualFunc(kept, oneOrder(busy()), same) {
			t.Errorf("what All gave before: %v", kept)
		}
		for _, y := range []*past.Past{p, q, r} {
			wantBusy(t, "filled", y)
		}
	}
}

// P11.7: lists of hashes that are answered are new memory, too.
func TestHashesMemory(t *testing.T) {
	p := of(t, busy()...)
	answers := func() [][]api.Hash {
		x, _ := p.Common(d, api.Hash{8})
		y, _ := p.Since(nil, hashes(d))
		z, _ := p.Since(hashes(c), p.Heads())
		v, _ := p.Common(b, b)
		return [][]api.Hash{p.Heads(), x, y, z, v}
	}
	want := [][]api.Hash{{d, {8}}, {b, c}, {a, b, c, d}, {b, d, {8}}, {b}}
	one, two := answers(), answers()
	for i := range one {
		wantList(t, "one answer", one[i], want[i]...)
		fill(one[i], other)
	}
	for i, l := range answers() {
		wantList(t, "another answer", two[i], want[i]...)
		wantList(t, "a later answer", l, want[i]...)
	}
	wantBusy(t, "filled", p)
}

// P11.7: a history never changes, whatever is asked of it, and whatever others are made of the same entries.
func TestNeverChanges(t *testing.T) {
	l := busy()
	p := of(t, l...)
	all := p.All()
	q := at(t, p, c)
	of(t, append(slices.Clone(l), entry(api.Hash{}, 4, d))...)
	past.Of(append(l, entry(a, 1)))
	for range 3 {
		p.Heads()
		p.Common(d, api.Hash{8})
		p.Since(hashes(c), hashes(d))
		p.At(hashes(b))
		p.At(hashes(other))
		p.Entry(9)
		p.Number(other)
		p.Sees(7, 1)
		for range all {
			break
		}
	}
	wantBusy(t, "asked much", p)
	wantOrder(t, "At(c)", q, a, c)
	if q.Number(b) != -1 || !q.Sees(0, 1) {
		t.Error("At(c) has come to know more")
	}
	wantList(t, "At(c): Heads", q.Heads(), c)
}
