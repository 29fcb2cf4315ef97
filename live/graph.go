package live

import (
	"maps"
	"math/big"
	"slices"

	"pleach/api"
	"pleach/dag"
)

// graph is the entries that were taken, numbered from 0 on as they came: who has seen whom, and the one order.
type graph struct {
	dag    *dag.Dag
	number map[api.Hash]int
	under  []*big.Int // of each the numbers of those that it is or has seen, a bit each; never changed
	order  []int      // their numbers in the one order
	rank   []int      // of each where it stands there
}

// newGraph makes one without entries.
func newGraph() graph { return graph{dag: newDag(), number: map[api.Hash]int{}} }

// newDag makes one in which nothing waits.
func newDag() *dag.Dag {
	d, _ := dag.New(0) // a room that may be
	return d
}

// fit tells why the vertex of a transaction that may be can't be the next one.
func (g *graph) fit(x api.Vertex) api.Errno {
	how, why := g.dag.Fit(x)
	switch how {
	case api.Known:
		return api.ErrState
	case api.Waits:
		return api.ErrAbsent
	}
	return why
}

// take takes a vertex that fits.
func (g *graph) take(x api.Vertex) {
	n := len(g.under)
	under := new(big.Int)
	under.SetBit(under, n, 1)
	for _, h := range x.Parents {
		under.Or(under, g.under[g.number[h]])
	}
	g.dag.Add(x)
	g.number[x.ID] = n
	g.under = append(g.under, under)
	g.lay(n, slices.Index(g.dag.Order(), x.ID))
}

// lay gives a number its place in the one order. Of the others each stays behind whom it stood, since nobody has seen the new one.
func (g *graph) lay(n, at int) {
	g.order = slices.Insert(g.order, at, n)
	g.rank = append(g.rank, at)
	for i, other := range g.order[at:] {
		g.rank[other] = at + i
	}
}

// newest tells the number of the one that was taken last.
func (g *graph) newest() int { return len(g.under) - 1 }

// knows tells whether the newest one is, or has seen, the one of a number.
func (g *graph) knows(n int) bool { return g.under[g.newest()].Bit(n) == 1 }

// later tells whether the one of a number stands later in the one order than the newest one.
func (g *graph) later(n int) bool { return g.rank[n] > g.rank[g.newest()] }

// copy tells the same; neither sees what is done to the other.
func (g *graph) copy() graph {
	d := newDag()
	for _, h := range g.dag.Order() {
		parents, _ := g.dag.Parents(h)
		d.Add(api.Vertex{ID: h, Clock: g.dag.Clock(h), Parents: parents})
	}
	return graph{dag: d, number: maps.Clone(g.number), under: slices.Clone(g.under), order: slices.Clone(g.order), rank: slices.Clone(g.rank)}
}
