package dag_test

import (
	"fmt"
	"math/rand/v2"
	"slices"
	"testing"

	"pleach/api"
	"pleach/dag"
)

// graph tells so many vertices, each ahead of those that name it; its hashes are in whatever order.
func graph(r *rand.Rand, n int) []api.Vertex {
	l := []api.Vertex{}
	names := r.Perm(n)
	most := one(r, 1, 2, 3, 5)
	near := one(r, 2, 4, n)
	for i := range n {
		v := vertex(number(names[i]), 1)
		if r.IntN(8) > 0 {
			for range min(i, r.IntN(most+1)) {
				p := l[max(0, i-1-r.IntN(near))]
				v.Parents = append(v.Parents, p.ID)
				v.Clock = max(v.Clock, p.Clock+1)
			}
		}
		v.Parents = rising(v.Parents)
		l = append(l, v)
	}
	return l
}

// feed hands all vertices to a Dag, in whatever order, again and again, till all are held; what waits is settled now and then.
func feed(t *testing.T, r *rand.Rand, g *dag.Dag, l []api.Vertex) {
	t.Helper()
	for g.Len() < len(l) {
		for _, i := range r.Perm(len(l)) {
			g.Add(l[i])
			if v, is := g.Next(); is && r.IntN(3) > 0 {
				if how, e := g.Settle(v.ID); how != api.Took || e != api.OK {
					t.Fatalf("Settle: %d, %d", how, e)
				}
			}
		}
	}
}

// stands fails, if of what old tells now has another order, or lacks it.
func stands(t *testing.T, old, now []api.Hash) {
	t.Helper()
	i := 0
	for _, h := range now {
		if i < len(old) && old[i] == h {
			i++
		}
	}
	if i != len(old) {
		t.Fatalf("it was %s, and is %s", show(old), show(now))
	}
}

// P10.6: the chapter's fifth example, and the document's third one.
func TestOrderExamples(t *testing.T) {
	g := with(t, 64, vertex(d, 1), vertex(a, 2, d), vertex(b, 1), vertex(c, 1))
	wantList(t, "Order", g.Order(), b, c, d, a)
	wantList(t, "Heads", g.Heads(), a, b, c)
	g = with(t, 64, vertex(a, 1), vertex(b, 2, a), vertex(c, 2, a), vertex(d, 3, b, c))
	wantList(t, "Order", g.Order(), a, b, c, d)
	takes(t, g, vertex(api.Hash{}, 1))
	wantList(t, "Order", g.Order(), api.Hash{}, a, b, c, d)
	wantList(t, "Heads", g.Heads(), api.Hash{}, d)
}

// P10.6: where one comes to stand, by its own hash and by its parents' places.
func TestOrderPlaces(t *testing.T) {
	x := func(n int) api.Hash { return number(n) }
	row := []api.Vertex{vertex(x(50), 1), vertex(x(20), 2, x(50)), vertex(x(60), 2, x(50)), vertex(x(10), 3, x(60)), vertex(x(30), 1)}
	wantList(t, "Order", with(t, 64, row...).Order(), x(30), x(50), x(20), x(60), x(10))
	for _, c := range []struct {
		v  api.Vertex
		at int
	}{
		{vertex(x(5), 1), 0},
		{vertex(x(29), 1), 0},
		{vertex(x(31), 1), 1},
		{vertex(x(49), 1), 1},
		{vertex(x(51), 1), 3},
		{vertex(x(59), 1), 3},
		{vertex(x(61), 1), 5},
		{vertex(x(5), 2, x(30)), 1},
		{vertex(x(5), 2, x(50)), 2},
		{vertex(x(19), 2, x(50)), 2},
		{vertex(x(21), 2, x(50)), 3},
		{vertex(x(61), 2, x(50)), 5},
		{vertex(x(5), 3, x(20)), 3},
		{vertex(x(5), 3, x(20), x(30)), 3},
		{vertex(x(5), 3, x(30), x(60)), 4},
		{vertex(x(11), 3, x(60)), 5},
		{vertex(x(5), 4, x(10)), 5},
		{vertex(x(70), 4, x(10), x(50)), 5},
		{vertex(x(70), 2, x(30)), 5},
	} {
		g := with(t, 64, row...)
		want := slices.Insert(g.Order(), c.at, c.v.ID)
		takes(t, g, c.v)
		wantList(t, "Order with "+showVertex(c.v), g.Order(), want...)
	}
}

// P10.6: however vertices come, two Dags that hold the same have the one order, in which parents stand ahead, and the same heads.
func TestOneOrder(t *testing.T) {
	r := chance()
	for range 150 {
		l := graph(r, 1+r.IntN(40))
		want := oneOrder(l)
		heads := (&model{held: l}).heads()
		for range 4 {
			g := made(t, one(r, 0, 1, 5, 64))
			feed(t, r, g, l)
			wantList(t, "Order", g.Order(), want...)
			wantList(t, "Heads", g.Heads(), heads...)
			for _, v := range l {
				for _, p := range v.Parents {
					if order := g.Order(); slices.Index(order, p) >= slices.Index(order, v.ID) {
						t.Fatalf("%s isn't ahead of %s", show([]api.Hash{p}), showVertex(v))
					}
				}
			}
		}
	}
}

// P10.6: while more is taken, what was held stands as it stood, each once, whatever waits, goes or is refused meanwhile.
func TestOrderStands(t *testing.T) {
	r := chance()
	for range 60 {
		l := graph(r, 30)
		g := made(t, 4)
		olds := [][]api.Hash{{}}
		for g.Len() < len(l) {
			v := one(r, l...)
			switch next, is := g.Next(); {
			case is && r.IntN(2) == 0:
				g.Settle(next.ID)
			case r.IntN(8) == 0:
				g.Forget(v.ID)
			case r.IntN(8) == 0:
				v.Clock++
				g.Fit(v)
			default:
				g.Add(v)
			}
			now := g.Order()
			if len(now) != g.Len() || len(rising(now)) != len(now) {
				t.Fatalf("Order: %s of %d", show(now), g.Len())
			}
			if len(now) > len(olds[len(olds)-1]) {
				olds = append(olds, now)
			}
		}
		for i, old := range olds {
			stands(t, old, one(r, olds[i:]...))
			stands(t, old, olds[len(olds)-1])
		}
	}
}

// P10.6: a great graph, whose order is told by going through the rising hashes again and again.
func TestGreatOrder(t *testing.T) {
	r := chance()
	l := graph(r, 600)
	want := oneOrder(l)
	for range 2 {
		g := made(t, 64)
		feed(t, r, g, l)
		if order := g.Order(); !slices.Equal(order, want) {
			t.Error("the order is another one")
		}
	}
}

// P10.6: hashes that differ in one byte alone, whichever, stand in their order.
func TestOrderEveryByte(t *testing.T) {
	for i := range 32 {
		less, more := api.Hash{}, api.Hash{}
		less[i], more[i] = 127, 128
		for k := i + 1; k < 32; k++ {
			less[k] = 255
		}
		what := fmt.Sprintf("byte %d", i)
		for _, l := range [][]api.Vertex{{vertex(less, 1), vertex(more, 1)}, {vertex(more, 1), vertex(less, 1)}} {
			g := with(t, 0, l...)
			wantList(t, what, g.Order(), less, more)
			wantList(t, what, g.Heads(), less, more)
		}
	}
}
