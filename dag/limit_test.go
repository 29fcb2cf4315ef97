package dag_test

import (
	"testing"

	"pleach/api"
	"pleach/dag"
)

// wide tells a Dag that holds so many without parents.
func wide(t *testing.T, room, n int) *dag.Dag {
	t.Helper()
	g := made(t, room)
	for i := range n {
		if how, out, e := g.Add(vertex(number(i), 1)); how != api.Took || len(out) != 0 || e != api.OK {
			t.Fatalf("number %d: %d, %d", i, how, e)
		}
	}
	return g
}

// P10.2, P10.4, P10.5: MaxNodes are held, and no more: one more is refused by the first thing that is wrong with it.
func TestMaxNodes(t *testing.T) {
	g := wide(t, 2, api.MaxNodes-1)
	takes(t, g, vertex(a, 2, number(0)))
	if g.Len() != api.MaxNodes || len(g.Order()) != api.MaxNodes || len(g.Heads()) != api.MaxNodes-1 {
		t.Errorf("%d held, %d in the order, %d heads", g.Len(), len(g.Order()), len(g.Heads()))
	}
	refuses(t, g, vertex(b, 1), api.ErrMany)
	refuses(t, g, vertex(b, 2, number(7)), api.ErrMany)
	refuses(t, g, vertex(b, 3, number(7), a), api.ErrMany)
	refuses(t, g, vertex(b, 3, number(7)), api.ErrClock)
	refuses(t, g, vertex(b, 2), api.ErrClock)
	refuses(t, g, vertex(b, 1, number(7)), api.ErrClock)
	refuses(t, g, vertex(b, 2, a, number(7)), api.ErrParents)
	knows(t, g, vertex(a, 1))
	waits(t, g, vertex(b, 2, c))
	waits(t, g, vertex(c, 2, c))
	waits(t, g, vertex(d, 2, number(4095)), b)
	if g.Len() != api.MaxNodes {
		t.Errorf("%d held", g.Len())
	}
}

// P10.3, P10.5: a waiting one is not held beyond MaxNodes: then it waits no more; where it doesn't fit, that is told first.
func TestSettleMany(t *testing.T) {
	g := wide(t, 64, api.MaxNodes-2)
	waits(t, g, vertex(b, 2, a))
	waits(t, g, vertex(c, 3, a))
	waits(t, g, vertex(d, 2, number(5), a))
	waits(t, g, vertex(api.Hash{5}, 2, a, api.Hash{9}))
	takes(t, g, vertex(a, 1))
	settles(t, g, b, api.OK)
	if g.Len() != api.MaxNodes || !g.Has(b) {
		t.Errorf("%d held", g.Len())
	}
	wantNext(t, g, vertex(c, 3, a))
	was := look(g)
	if g.Ready(c) != api.ErrClock || g.Ready(d) != api.ErrMany || g.Ready(api.Hash{5}) != api.ErrState || g.Ready(b) != api.ErrAbsent {
		t.Error("Ready")
	}
	wantLook(t, "Ready", g, was)
	settles(t, g, c, api.ErrClock)
	wantNext(t, g, vertex(d, 2, number(5), a))
	settles(t, g, d, api.ErrMany)
	settles(t, g, d, api.ErrAbsent)
	settles(t, g, api.Hash{5}, api.ErrState)
	wantList(t, "Waiting", g.Waiting(), api.Hash{5})
	wantList(t, "Missing", g.Missing(), api.Hash{9})
	if g.Has(c) || g.Has(d) || g.Len() != api.MaxNodes || len(g.Order()) != api.MaxNodes {
		t.Errorf("%d held", g.Len())
	}
	refuses(t, g, vertex(d, 2, number(5), a), api.ErrMany)
}

// P10.2: a clock of MaxNodes may be: in the longest row that may be held, and of one that waits.
func TestLongestRow(t *testing.T) {
	g := with(t, 64, vertex(number(0), 1))
	for i := 1; i < api.MaxNodes-1; i++ {
		if how, _, e := g.Add(vertex(number(i), i+1, number(i-1))); how != api.Took || e != api.OK {
			t.Fatalf("clock %d: %d, %d", i+1, how, e)
		}
	}
	waits(t, g, vertex(b, api.MaxNodes, a))
	refuses(t, g, vertex(c, api.MaxNodes+1, a), api.ErrClock)
	refuses(t, g, vertex(c, api.MaxNodes-1, number(api.MaxNodes-2)), api.ErrClock)
	takes(t, g, vertex(d, api.MaxNodes, number(api.MaxNodes-2)))
	wantList(t, "Heads", g.Heads(), d)
	if g.Clock(d) != api.MaxNodes || g.Len() != api.MaxNodes {
		t.Errorf("clock %d, %d held", g.Clock(d), g.Len())
	}
	for i, h := range g.Order()[:api.MaxNodes-1] {
		if h != number(i) || g.Clock(h) != i+1 {
			t.Fatalf("at %d: %s", i, show([]api.Hash{h}))
		}
	}
	refuses(t, g, vertex(c, api.MaxNodes+1, d), api.ErrClock)
}
