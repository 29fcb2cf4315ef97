package dag_test

import (
	"fmt"
	"math/rand/v2"
	"slices"
	"testing"

	"pleach/api"
	"pleach/dag"
)

// pair is a Dag, and the model of one.
type pair struct {
	g     *dag.Dag
	m     *model
	graph []api.Vertex // what is added mostly
	pool  []api.Hash   // what is asked for: hashes of the graph, and others
	told  []string
}

// newPair makes both, of that room.
func newPair(t *testing.T, r *rand.Rand, room int) *pair {
	t.Helper()
	p := &pair{g: made(t, room), m: &model{room: room}, graph: graph(r, 4+r.IntN(20))}
	p.pool = append(ids(p.graph), number(500), number(501), api.Hash{}, a)
	return p
}

// say notes what was told, so that a failure tells all of it.
func (p *pair) say(format string, l ...any) { p.told = append(p.told, fmt.Sprintf(format, l...)) }

// wantLists fails, if one of the lists isn't the model's.
func (p *pair) wantLists(t *testing.T) {
	t.Helper()
	for _, x := range []struct {
		what      string
		got, want []api.Hash
	}{
		{"Order", p.g.Order(), p.m.order()},
		{"Heads", p.g.Heads(), p.m.heads()},
		{"Waiting", p.g.Waiting(), ids(p.m.wait)},
		{"Missing", p.g.Missing(), p.m.missing()},
	} {
		if !slices.Equal(x.got, x.want) {
			t.Fatalf("%v: %s: %s; want %s", p.told, x.what, show(x.got), show(x.want))
		}
	}
}

// wantEach fails, if what is told of one hash isn't what the model tells.
func (p *pair) wantEach(t *testing.T) {
	t.Helper()
	for _, h := range p.pool {
		v, held := find(p.m.held, h)
		want := api.ErrAbsent
		if held {
			want = api.OK
		}
		l, e := p.g.Parents(h)
		if p.g.Has(h) != held || p.g.Waits(h) != in(p.m.wait, h) || p.g.Clock(h) != v.Clock || e != want || !slices.Equal(l, v.Parents) {
			t.Fatalf("%v: of %s is told another thing than of %s, %v", p.told, show([]api.Hash{h}), showVertex(v), held)
		}
		if got, want := p.g.Ready(h), p.m.ready(h); got != want {
			t.Fatalf("%v: Ready%s: %d; want %d", p.told, show([]api.Hash{h}), got, want)
		}
	}
}

// wantClosed fails, if what is told isn't closed, or is too much: by the Dag's answers alone.
func (p *pair) wantClosed(t *testing.T) {
	t.Helper()
	order, waiting := p.g.Order(), p.g.Waiting()
	if len(order) != p.g.Len() || len(order) > api.MaxNodes || len(waiting) > p.m.room {
		t.Fatalf("%v: %d of %d held, %d wait", p.told, len(order), p.g.Len(), len(waiting))
	}
	for _, h := range order {
		if !p.g.Has(h) || p.g.Waits(h) || slices.Contains(waiting, h) {
			t.Fatalf("%v: %s is held, and isn't, or waits", p.told, show([]api.Hash{h}))
		}
		l, _ := p.g.Parents(h)
		if slices.ContainsFunc(l, func(x api.Hash) bool { return !p.g.Has(x) || p.g.Clock(x) >= p.g.Clock(h) }) {
			t.Fatalf("%v: of %s a parent isn't held", p.told, show([]api.Hash{h}))
		}
	}
}

// wantSame fails, if one of the two tells another thing than the other.
func (p *pair) wantSame(t *testing.T) {
	t.Helper()
	v, is := p.g.Next()
	want, wantIs := p.m.next()
	if is != wantIs || !sameVertex(v, want) {
		t.Fatalf("%v: Next: %s, %v; want %s, %v", p.told, showVertex(v), is, showVertex(want), wantIs)
	}
	p.wantLists(t)
	p.wantEach(t)
	p.wantClosed(t)
}

// someVertex tells one of the graph, mostly, and else one that is like it, but for something.
func (p *pair) someVertex(r *rand.Rand) api.Vertex {
	v := one(r, p.graph...)
	v.Parents = slices.Clone(v.Parents)
	switch r.IntN(16) {
	case 0:
		v.Clock += one(r, -1, 1, 2, -v.Clock, 5000, -5000)
	case 1:
		v.Parents = rising(append(v.Parents, one(r, p.pool...)))
	case 2:
		v.Parents = append(v.Parents, one(r, p.pool...))
	case 3:
		v.ID = one(r, p.pool...)
	case 4:
		if len(v.Parents) > 0 {
			v.Parents = v.Parents[1:]
		}
	case 5:
		for i := range r.IntN(70) {
			v.Parents = append(v.Parents, number(600+i))
		}
	case 6:
		slices.Reverse(v.Parents)
	}
	return v
}

func (p *pair) add(t *testing.T, r *rand.Rand) {
	t.Helper()
	v := p.someVertex(r)
	p.say("Add%s", showVertex(v))
	want, wantE := p.m.fit(v)
	if how, e := p.g.Fit(v); how != want || e != wantE {
		t.Fatalf("%v: Fit: %d, %d; want %d, %d", p.told, how, e, want, wantE)
	}
	want, wantOut, wantE := p.m.add(v)
	if how, out, e := p.g.Add(v); how != want || e != wantE || !slices.Equal(out, wantOut) {
		t.Fatalf("%v: %d, %s, %d; want %d, %s, %d", p.told, how, show(out), e, want, show(wantOut), wantE)
	}
}

func (p *pair) settle(t *testing.T, h api.Hash) {
	t.Helper()
	p.say("Settle%s", show([]api.Hash{h}))
	want, wantE := p.m.settle(h)
	if how, e := p.g.Settle(h); how != want || e != wantE {
		t.Fatalf("%v: %d, %d; want %d, %d", p.told, how, e, want, wantE)
	}
}

func (p *pair) forget(t *testing.T, h api.Hash) {
	t.Helper()
	p.say("Forget%s", show([]api.Hash{h}))
	want := p.m.forget(h)
	if is := p.g.Forget(h); is != want {
		t.Fatalf("%v: %v", p.told, is)
	}
}

// step tells both the same.
func (p *pair) step(t *testing.T, r *rand.Rand) {
	t.Helper()
	switch r.IntN(12) {
	case 0:
		p.forget(t, one(r, p.pool...))
	case 1, 2:
		p.settle(t, one(r, p.pool...))
	case 3, 4:
		if v, is := p.g.Next(); is {
			p.settle(t, v.ID)
		}
	default:
		p.add(t, r)
	}
}

// P10.2 to P10.6: whatever a Dag is told, in whatever order, each answer, and all that it tells then, is what the words say, and what is held is closed.
func TestWords(t *testing.T) {
	r := chance()
	for range 250 {
		p := newPair(t, r, one(r, 0, 1, 2, 3, 5, 64))
		for range 60 {
			p.step(t, r)
			p.wantSame(t)
		}
	}
}

// P10.2 to P10.5: hashes that name themselves, one another, and what comes later with another clock: nothing is taken that isn't closed.
func TestTangle(t *testing.T) {
	r := chance()
	for range 250 {
		p := newPair(t, r, one(r, 1, 3, 64))
		p.pool = []api.Hash{a, b, c, d}
		p.graph = nil
		for range 12 {
			v := vertex(one(r, p.pool...), 1+r.IntN(4))
			for _, h := range p.pool {
				if v.Clock > 1 && r.IntN(3) == 0 {
					v.Parents = append(v.Parents, h)
				}
			}
			p.graph = append(p.graph, v)
		}
		for range 60 {
			p.step(t, r)
			p.wantSame(t)
		}
	}
}
