package dag_test

import (
	"slices"
	"testing"

	"pleach/api"
	"pleach/dag"
)

// fill fills a list, its spare room too, with a hash that nobody names.
func fill(l []api.Hash) {
	l = l[:cap(l)]
	for i := range l {
		l[i] = api.Hash{255, 255}
	}
}

// roomy tells a list with spare room behind it.
func roomy(l ...api.Hash) []api.Hash {
	whole := append(make([]api.Hash, 0, len(l)+5), l...)
	for i := range 5 {
		whole = append(whole, api.Hash{200, byte(i)})
	}
	return whole[:len(l)]
}

// full tells a Dag in which three are held and three wait, one of them ready.
func full(t *testing.T) *dag.Dag {
	t.Helper()
	g := with(t, 64, vertex(a, 1), vertex(b, 1))
	waits(t, g, vertex(number(1), 3, c))
	waits(t, g, vertex(number(2), 2, number(3), number(4), number(5)))
	waits(t, g, vertex(number(6), 3, number(3), number(4), number(5)))
	takes(t, g, vertex(c, 2, a, b))
	return g
}

// P10.7: what is handed in stays as it was, its spare room too, whatever is answered.
func TestHandedIn(t *testing.T) {
	for _, v := range []api.Vertex{
		vertex(d, 1),
		vertex(d, 2, a),
		vertex(d, 2, a, b),
		vertex(d, 3, a, c),
		vertex(d, 3, b, c),
		vertex(d, 7, b, c),
		vertex(d, 3, number(9), number(10)),
		vertex(d, 3, c, b, a),
		vertex(d, 3, a, a, a),
		vertex(a, 3, c, b, a),
		vertex(number(1), 2, a, b, c),
	} {
		g := full(t)
		v.Parents = roomy(v.Parents...)
		kept := slices.Clone(v.Parents[:cap(v.Parents)])
		g.Fit(v)
		g.Add(v)
		g.Fit(v)
		g.Add(v)
		g.Settle(v.ID)
		g.Next()
		g.Missing()
		g.Forget(v.ID)
		if !slices.Equal(v.Parents[:cap(v.Parents)], kept) {
			t.Errorf("%s: what was handed in is changed", showVertex(v))
		}
	}
}

// P10.7: the parents of a vertex may be written over behind Add, if it is held, and if it waits, till it is settled and behind that.
func TestAddKeepsNothing(t *testing.T) {
	g := made(t, 64)
	add := func(h api.Hash, clock int, parents ...api.Hash) {
		v := vertex(h, clock, roomy(parents...)...)
		g.Fit(v)
		fit := slices.Clone(v.Parents)
		g.Add(v)
		if !slices.Equal(v.Parents, fit) {
			t.Errorf("%s: changed", showVertex(v))
		}
		fill(v.Parents)
	}
	add(a, 1)
	add(b, 1)
	add(c, 2, a, b)
	add(number(7), 4, c, d)
	add(number(8), 3, number(6), c)
	p, _ := g.Parents(c)
	wantList(t, "Parents(c)", p, a, b)
	wantList(t, "Missing", g.Missing(), number(6), d)
	wantNoNext(t, g)
	add(d, 3, c)
	wantNext(t, g, vertex(number(7), 4, c, d))
	settles(t, g, number(7), api.OK)
	p, _ = g.Parents(number(7))
	wantList(t, "Parents(7)", p, c, d)
	add(number(6), 1)
	settles(t, g, number(8), api.OK)
	wantList(t, "Order", g.Order(), number(6), a, b, c, number(8), d, number(7))
	wantList(t, "Heads", g.Heads(), number(7), number(8))
}

// answers tells all lists that a Dag answers.
func answers(g *dag.Dag) [][]api.Hash {
	l := [][]api.Hash{g.Order(), g.Heads(), g.Waiting(), g.Missing()}
	v, _ := g.Next()
	l = append(l, v.Parents)
	for _, h := range g.Order() {
		p, _ := g.Parents(h)
		l = append(l, p)
	}
	return l
}

// P10.7: each list that is answered is new memory, spare room too: filling it changes neither what the Dag tells nor another answer.
func TestAnswersMemory(t *testing.T) {
	g := full(t)
	was := look(g)
	one, two := answers(g), answers(g)
	for i := range one {
		fill(one[i])
		wantLook(t, "one answer filled", g, was)
	}
	fresh := answers(g)
	for i := range fresh {
		wantList(t, "another answer", two[i], fresh[i]...)
	}
	for i := range two {
		fill(two[i])
	}
	wantLook(t, "all answers filled", g, was)
	settles(t, g, number(1), api.OK)
	takes(t, g, vertex(d, 3, c))
	waits(t, g, vertex(number(20), 2, number(21)))
	wantList(t, "Order", g.Order(), a, b, c, number(1), d)
	wantList(t, "Heads", g.Heads(), number(1), d)
	wantList(t, "Waiting", g.Waiting(), number(2), number(6), number(20))
	wantList(t, "Missing", g.Missing(), number(3), number(4), number(5), number(21))
}

// P10.7: an answer stays as it was, whatever the Dag is told behind it.
func TestAnswersStay(t *testing.T) {
	g := full(t)
	l := answers(g)
	was := [][]api.Hash{}
	for _, x := range l {
		was = append(was, slices.Clone(x))
	}
	settles(t, g, number(1), api.OK)
	takes(t, g, vertex(api.Hash{}, 1))
	takes(t, g, vertex(d, 3, c))
	g.Forget(number(2))
	waits(t, g, vertex(number(20), 2, number(21)))
	g.Forget(number(6))
	for i := range l {
		wantList(t, "an old answer", l[i], was[i]...)
	}
}

// P10.7: what Add tells to have gone is new memory, too.
func TestOutMemory(t *testing.T) {
	g := made(t, 1)
	waits(t, g, vertex(a, 2, d))
	_, out, _ := g.Add(vertex(b, 2, d))
	wantList(t, "out", out, a)
	fill(out)
	wantList(t, "Waiting", g.Waiting(), b)
	_, again, _ := g.Add(vertex(c, 2, d))
	wantList(t, "out again", again, b)
	fill(again)
	wantList(t, "out", out, api.Hash{255, 255})
	wantList(t, "Waiting", g.Waiting(), c)
	wantList(t, "Missing", g.Missing(), d)
}

// P10.7: two Dags have nothing in common.
func TestTwoDags(t *testing.T) {
	v := vertex(c, 2, a, b)
	one, two := with(t, 64, vertex(a, 1), vertex(b, 1)), made(t, 64)
	takes(t, one, v)
	waits(t, two, v)
	wantList(t, "Waiting", one.Waiting())
	wantList(t, "Order", two.Order())
	two.Forget(c)
	wantList(t, "Order", one.Order(), a, b, c)
}
