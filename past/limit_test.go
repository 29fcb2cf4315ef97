package past_test

import (
	"slices"
	"testing"

	"pleach/api"
)

// row tells so many entries each of which has the one ahead as its parent.
func row(n int) []api.Entry {
	l := []api.Entry{}
	for i := range n {
		x := entry(number(i), i+1)
		if i > 0 {
			x.Node.Parents = hashes(number(i - 1))
		}
		l = append(l, x)
	}
	return l
}

// wide tells so many entries without parents.
func wide(n int) []api.Entry {
	l := []api.Entry{}
	for i := range n {
		l = append(l, entry(number(i), 1))
	}
	return l
}

// P11.1 to P11.5: the longest row that may be, handed in from its end on.
func TestLongestRow(t *testing.T) {
	l := row(api.MaxNodes)
	slices.Reverse(l)
	p := of(t, l...)
	end := api.MaxNodes - 1
	if x, e := p.Entry(end); e != api.OK || x.ID != number(end) || x.Node.Clock != api.MaxNodes || p.Len() != api.MaxNodes {
		t.Errorf("the last one: clock %d, %d; of %d", x.Node.Clock, e, p.Len())
	}
	for i := range api.MaxNodes {
		if p.Number(number(i)) != i || p.Sees(i, end) != (i != end) || p.Sees(end, i) || p.Sees(i, 2000) != (i < 2000) || p.Sees(2000, i) != (i > 2000) {
			t.Fatalf("number %d", i)
		}
	}
	if p.Sees(0, api.MaxNodes) || p.Sees(api.MaxNodes, end) {
		t.Error("Sees of one too many")
	}
	wantList(t, "Heads", p.Heads(), number(end))
	wantCommon(t, p, number(100), number(4000), number(100))
	wantSince(t, p, hashes(number(end-2)), p.Heads(), number(end-1), number(end))
	q := at(t, p, number(99))
	if q.Len() != 100 || q.Number(number(100)) != -1 {
		t.Errorf("At: %d", q.Len())
	}
	wantAllSame(t, ids(entries(t, at(t, p, p.Heads()...))), ids(row(api.MaxNodes)))
}

// wantAllSame fails, if two long lists are unlike.
func wantAllSame(t *testing.T, got, want []api.Hash) {
	t.Helper()
	if !slices.Equal(got, want) {
		t.Errorf("%d, not %d hashes, or others", len(got), len(want))
	}
}

// P11.1, P11.4, P11.5: as many without parents as may be: each is a head.
func TestWidest(t *testing.T) {
	l := wide(api.MaxNodes)
	slices.Reverse(l)
	p := of(t, l...)
	want := ids(wide(api.MaxNodes))
	wantAllSame(t, ids(entries(t, p)), want)
	wantAllSame(t, p.Heads(), want)
	q := at(t, p, append(ids(l), ids(l)...)...)
	wantAllSame(t, q.Heads(), want)
	come, e := p.Since(want[:1000], want)
	wantAllSame(t, come, want[1000:])
	if e != api.OK || p.Sees(0, 4095) || p.Sees(64, 65) {
		t.Errorf("Since: %d, or some have seen others", e)
	}
	wantCommon(t, p, number(1), number(2))
}

// P11.1: one more than MaxNodes is told, whatever is wrong with it, and whatever the second going through would find ahead of it; what is wrong ahead of it in the first one is told first.
func TestOneMore(t *testing.T) {
	l := wide(api.MaxNodes)
	for _, x := range []api.Entry{entry(a, 1), entry(number(0), 1), {}, entry(a, 2, other), entry(a, 9, number(0)), entry(a, 2, a)} {
		wantWrong(t, api.ErrMany, api.MaxNodes, append(slices.Clone(l), x)...)
		wantWrong(t, api.ErrMany, api.MaxNodes, append(slices.Clone(l), x, x, x)...)
	}
	l[7] = entry(a, 2, other)
	wantWrong(t, api.ErrAbsent, 7, l...)
	wantWrong(t, api.ErrMany, api.MaxNodes, append(slices.Clone(l), entry(b, 1))...)
	l[api.MaxNodes-1] = entry(number(0), 1)
	wantWrong(t, api.ErrState, api.MaxNodes-1, append(slices.Clone(l), entry(b, 1))...)
	l[9] = api.Entry{}
	wantWrong(t, api.ErrAuthor, 9, append(slices.Clone(l), entry(b, 1))...)
}

// P11.1: an entry with as many parents, and as many operations, as may be.
func TestFullEntry(t *testing.T) {
	l := wide(api.MaxParents)
	x := entry(a, 2, ids(l)...)
	for range api.MaxOps {
		x.Node.Ops = append(x.Node.Ops, api.Op{Kind: api.OpAdd, Key: "k", Text: "v"})
	}
	p := of(t, append([]api.Entry{x}, l...)...)
	got, e := p.Entry(api.MaxParents)
	if e != api.OK || !same(got, x) {
		t.Errorf("Entry: %d", e)
	}
	for i := range l {
		if !p.Sees(i, api.MaxParents) {
			t.Errorf("it hasn't seen %d", i)
		}
	}
	wantList(t, "Heads", p.Heads(), a)
}
