package dag_test

import (
	"math"
	"slices"
	"testing"

	"pleach/api"
	"pleach/dag"
)

// a to d rise in this order.
var a, b, c, d = api.Hash{1}, api.Hash{2}, api.Hash{3}, api.Hash{4}

// made tells a Dag of that room.
func made(t *testing.T, room int) *dag.Dag {
	t.Helper()
	g, e := dag.New(room)
	if e != api.OK || g == nil {
		t.Fatalf("New(%d): %v", room, e)
	}
	return g
}

// with tells a Dag of that room that holds vertices.
func with(t *testing.T, room int, l ...api.Vertex) *dag.Dag {
	t.Helper()
	g := made(t, room)
	for _, v := range l {
		takes(t, g, v)
	}
	return g
}

// adds fails, if Fit and Add answer otherwise.
func adds(t *testing.T, g *dag.Dag, v api.Vertex, how int, e api.Errno, out ...api.Hash) {
	t.Helper()
	if fit, fe := g.Fit(v); fit != how || fe != e {
		t.Errorf("Fit%s: %d, %d; want %d, %d", showVertex(v), fit, fe, how, e)
	}
	got, l, ge := g.Add(v)
	if got != how || ge != e || !slices.Equal(l, out) {
		t.Errorf("Add%s: %d, %s, %d; want %d, %s, %d", showVertex(v), got, show(l), ge, how, show(out), e)
	}
}

// takes, waits, refuses and knows are adds of one answer.
func takes(t *testing.T, g *dag.Dag, v api.Vertex) {
	t.Helper()
	adds(t, g, v, api.Took, api.OK)
}

func waits(t *testing.T, g *dag.Dag, v api.Vertex, out ...api.Hash) {
	t.Helper()
	adds(t, g, v, api.Waits, api.OK, out...)
}

func knows(t *testing.T, g *dag.Dag, v api.Vertex) {
	t.Helper()
	was := look(g)
	adds(t, g, v, api.Known, api.OK)
	wantLook(t, "known: "+showVertex(v), g, was)
}

func refuses(t *testing.T, g *dag.Dag, v api.Vertex, e api.Errno) {
	t.Helper()
	was := look(g)
	adds(t, g, v, api.HowNone, e)
	wantLook(t, "refused: "+showVertex(v), g, was)
}

// settles fails, if Ready and Settle answer otherwise.
func settles(t *testing.T, g *dag.Dag, h api.Hash, e api.Errno) {
	t.Helper()
	if got := g.Ready(h); got != e {
		t.Errorf("Ready%s: %d; want %d", show([]api.Hash{h}), got, e)
	}
	want := api.HowNone
	if e == api.OK {
		want = api.Took
	}
	if how, got := g.Settle(h); how != want || got != e {
		t.Errorf("Settle%s: %d, %d; want %d, %d", show([]api.Hash{h}), how, got, want, e)
	}
}

// wantNext fails, if Next tells another one.
func wantNext(t *testing.T, g *dag.Dag, want api.Vertex) {
	t.Helper()
	if v, is := g.Next(); !is || !sameVertex(v, want) {
		t.Errorf("Next: %s, %v; want %s", showVertex(v), is, showVertex(want))
	}
}

// wantNoNext fails, if Next tells one.
func wantNoNext(t *testing.T, g *dag.Dag) {
	t.Helper()
	if v, is := g.Next(); is || !sameVertex(v, api.Vertex{}) {
		t.Errorf("Next: %s, %v; want none", showVertex(v), is)
	}
}

// wantList fails, if hashes aren't those.
func wantList(t *testing.T, what string, got []api.Hash, want ...api.Hash) {
	t.Helper()
	if !slices.Equal(got, want) {
		t.Errorf("%s: %s; want %s", what, show(got), show(want))
	}
}

// looks is all that a Dag tells at one time.
type looks struct {
	order, heads, waiting, missing []api.Hash
	held                           []api.Vertex
	next                           api.Vertex
	is                             bool
	n                              int
	ready                          []api.Errno
}

// look tells it in memory of its own, whatever the Dag's answers are.
func look(g *dag.Dag) looks {
	copied := slices.Clone[[]api.Hash]
	l := looks{order: copied(g.Order()), heads: copied(g.Heads()), waiting: copied(g.Waiting()), missing: copied(g.Missing()), n: g.Len()}
	l.next, l.is = g.Next()
	l.next.Parents = copied(l.next.Parents)
	for _, h := range l.order {
		p, _ := g.Parents(h)
		l.held = append(l.held, vertex(h, g.Clock(h), copied(p)...))
	}
	for _, h := range l.waiting {
		l.ready = append(l.ready, g.Ready(h))
	}
	return l
}

// wantLook fails, if a Dag doesn't tell what it told.
func wantLook(t *testing.T, what string, g *dag.Dag, was looks) {
	t.Helper()
	now := look(g)
	same := slices.Equal(now.order, was.order) && slices.Equal(now.heads, was.heads) && slices.Equal(now.waiting, was.waiting) && slices.Equal(now.missing, was.missing)
	same = same && slices.EqualFunc(now.held, was.held, sameVertex) && sameVertex(now.next, was.next) && now.is == was.is
	if !same || now.n != was.n || !slices.Equal(now.ready, was.ready) {
		t.Errorf("%s: it was %v, it is %v", what, was, now)
	}
}

// P10.1: rooms of 0 to MaxWaiting may be, others not.
func TestNew(t *testing.T) {
	for _, room := range []int{0, 1, 2, 63, 64} {
		g := made(t, room)
		wantLook(t, "a new one", g, looks{})
		if g.Has(a) || g.Waits(a) || g.Has(api.Hash{}) || g.Waits(api.Hash{}) {
			t.Errorf("New(%d): it has one", room)
		}
	}
	for _, room := range []int{-1, 65, -64, 128, 1 << 32, math.MinInt, math.MaxInt} {
		if g, e := dag.New(room); g != nil || e != api.ErrArg {
			t.Errorf("New(%d): %v, %d", room, g, e)
		}
	}
}

// P10.1, P10.2: just room wait.
func TestEachRoom(t *testing.T) {
	for room := range api.MaxWaiting + 1 {
		g := made(t, room)
		want := []api.Hash{}
		for i := range room {
			waits(t, g, vertex(number(i), 2, d))
			want = append(want, number(i))
		}
		wantList(t, "Waiting", g.Waiting(), want...)
		want = append(want, number(1000))
		waits(t, g, vertex(number(1000), 2, d), want[0])
		wantList(t, "Waiting", g.Waiting(), want[1:]...)
	}
}

// P10.2, P10.4: the chapter's first example.
func TestExampleHeld(t *testing.T) {
	g := with(t, 2, vertex(b, 1), vertex(a, 1))
	wantList(t, "Heads", g.Heads(), a, b)
	wantList(t, "Order", g.Order(), a, b)
	takes(t, g, vertex(c, 2, a, b))
	wantList(t, "Heads", g.Heads(), c)
	knows(t, g, vertex(c, 9, d))
	p, e := g.Parents(c)
	wantList(t, "Parents(c)", p, a, b)
	if e != api.OK || g.Clock(c) != 2 || g.Len() != 3 {
		t.Errorf("c: %d, clock %d, of %d", e, g.Clock(c), g.Len())
	}
}

// P10.2 to P10.4: the chapter's second example.
func TestExampleWaiting(t *testing.T) {
	g := made(t, 2)
	waits(t, g, vertex(c, 3, b))
	waits(t, g, vertex(d, 2, a))
	wantList(t, "Missing", g.Missing(), a, b)
	wantList(t, "Waiting", g.Waiting(), c, d)
	wantList(t, "Heads", g.Heads())
	takes(t, g, vertex(a, 1))
	wantNext(t, g, vertex(d, 2, a))
	settles(t, g, c, api.ErrState)
	settles(t, g, d, api.OK)
	takes(t, g, vertex(b, 2, a))
	settles(t, g, c, api.OK)
	wantList(t, "Order", g.Order(), a, b, c, d)
	wantList(t, "Heads", g.Heads(), c, d)
	wantList(t, "Waiting", g.Waiting())
}

// P10.2, P10.3: the chapter's third example.
func TestExampleRoom(t *testing.T) {
	g := made(t, 1)
	waits(t, g, vertex(c, 2, a))
	waits(t, g, vertex(d, 2, b), c)
	wantList(t, "Missing", g.Missing(), b)
	if g.Forget(c) || !g.Forget(d) || g.Forget(d) {
		t.Error("Forget of c, d, d")
	}
	wantLook(t, "all forgotten", g, looks{})
	g = made(t, 0)
	waits(t, g, vertex(c, 2, a), c)
	waits(t, g, vertex(c, 2, a), c)
	if g.Waits(c) {
		t.Error("it waits without room")
	}
	wantLook(t, "no room", g, looks{})
}

// P10.2, P10.3: the chapter's fourth example.
func TestExampleRefused(t *testing.T) {
	g := made(t, 64)
	for _, v := range []api.Vertex{vertex(a, 2), vertex(a, 1, b), vertex(a, 0), vertex(a, 4097, b)} {
		refuses(t, g, v, api.ErrClock)
	}
	refuses(t, g, vertex(c, 2, b, a), api.ErrParents)
	refuses(t, g, vertex(c, 2, a, a), api.ErrParents)
	takes(t, g, vertex(a, 1))
	refuses(t, g, vertex(b, 3, a), api.ErrClock)
	g = made(t, 64)
	waits(t, g, vertex(c, 3, b))
	takes(t, g, vertex(b, 1))
	wantNext(t, g, vertex(c, 3, b))
	settles(t, g, c, api.ErrClock)
	wantList(t, "Waiting", g.Waiting())
	wantList(t, "Order", g.Order(), b)
	wantNoNext(t, g)
}

// P10.2 to P10.4: the chapter's sixth example: one that names itself waits till it goes.
func TestExampleItself(t *testing.T) {
	g := made(t, 1)
	waits(t, g, vertex(a, 2, a))
	wantList(t, "Missing", g.Missing())
	wantList(t, "Waiting", g.Waiting(), a)
	wantNoNext(t, g)
	settles(t, g, a, api.ErrState)
	knows(t, g, vertex(a, 1))
	waits(t, g, vertex(b, 2, a, b), a)
	wantList(t, "Missing", g.Missing(), a)
	if !g.Forget(b) {
		t.Error("Forget(b)")
	}
	takes(t, g, vertex(a, 1))
	wantList(t, "Heads", g.Heads(), a)
}

// P10.3, P10.4: two that name one another wait, and neither is missing, till one goes.
func TestRing(t *testing.T) {
	g := made(t, 2)
	waits(t, g, vertex(a, 2, b))
	wantList(t, "Missing", g.Missing(), b)
	waits(t, g, vertex(b, 2, a))
	wantList(t, "Missing", g.Missing())
	wantNoNext(t, g)
	settles(t, g, a, api.ErrState)
	settles(t, g, b, api.ErrState)
	g.Forget(a)
	wantList(t, "Missing", g.Missing(), a)
	takes(t, g, vertex(a, 1))
	wantList(t, "Missing", g.Missing())
	settles(t, g, b, api.OK)
	wantList(t, "Order", g.Order(), a, b)
}

// P10.2: what is held or waits is known, whatever else is said of it.
func TestKnown(t *testing.T) {
	many := []api.Hash{}
	for i := range api.MaxParents + 1 {
		many = append(many, number(1000+i))
	}
	for _, room := range []int{2, 64} {
		g := with(t, room, vertex(a, 1))
		waits(t, g, vertex(b, 3, c))
		waits(t, g, vertex(d, 2, d))
		for _, h := range []api.Hash{a, b, d} {
			for _, v := range []api.Vertex{
				vertex(h, 1), vertex(h, 2, a), vertex(h, 3, c), vertex(h, 0), vertex(h, -1), vertex(h, 4097, a),
				vertex(h, 2), vertex(h, 1, a), vertex(h, 2, c, a), vertex(h, 2, a, a), vertex(h, 2, h), vertex(h, 2, many...), vertex(h, 9, a),
			} {
				knows(t, g, v)
			}
		}
		wantList(t, "Waiting", g.Waiting(), b, d)
	}
}

// P10.2: of what may not be, parents are looked at ahead of clocks, and both ahead of what is held.
func TestWrongParents(t *testing.T) {
	rises := []api.Hash{}
	for i := range api.MaxParents + 1 {
		rises = append(rises, number(1000+i))
	}
	g := with(t, 64, vertex(a, 1), vertex(b, 1), vertex(c, 1))
	for _, l := range [][]api.Hash{
		{b, a}, {a, a}, {a, b, b}, {a, a, b}, {a, c, b}, {c, a, b}, {b, a, d}, {d, a}, {d, d}, {api.Hash{}, api.Hash{}}, {a, {}},
		rises, append(slices.Clone(rises[:64]), a), slices.Repeat([]api.Hash{a}, 200),
	} {
		for _, clock := range []int{math.MinInt, -1, 0, 1, 2, 3, 4096, 4097, math.MaxInt} {
			refuses(t, g, vertex(api.Hash{9}, clock, l...), api.ErrParents)
		}
	}
	last := api.Hash{31: 1}
	refuses(t, g, vertex(api.Hash{9}, 2, last, api.Hash{}), api.ErrParents)
	waits(t, g, vertex(api.Hash{9}, 2, api.Hash{}, last))
}

// P10.2: MaxParents parents may be, held ones and others.
func TestManyParents(t *testing.T) {
	g := made(t, 2)
	l := []api.Hash{}
	for i := range api.MaxParents + 1 {
		l = append(l, number(1000+i))
		takes(t, g, vertex(l[i], 1))
	}
	refuses(t, g, vertex(a, 2, l...), api.ErrParents)
	takes(t, g, vertex(a, 2, l[:64]...))
	wantList(t, "Heads", g.Heads(), l[64], a)
	takes(t, g, vertex(b, 2, l[1:]...))
	wantList(t, "Heads", g.Heads(), a, b)
	p, _ := g.Parents(b)
	wantList(t, "Parents(b)", p, l[1:]...)
	waits(t, g, vertex(c, 3, append(slices.Clone(l[:63]), d)...))
	wantList(t, "Missing", g.Missing(), d)
}

// P10.2: clocks that may not be, with parents and without, whatever is held.
func TestWrongClocks(t *testing.T) {
	g := with(t, 64, vertex(a, 1), vertex(b, 2, a))
	for _, clock := range []int{math.MinInt, -4096, -1, 0, 4097, 4098, 1 << 32, 1<<32 + 1, 1<<32 + 2, math.MaxInt} {
		refuses(t, g, vertex(c, clock), api.ErrClock)
		refuses(t, g, vertex(c, clock, a), api.ErrClock)
		refuses(t, g, vertex(c, clock, d), api.ErrClock)
		refuses(t, g, vertex(c, clock, c), api.ErrClock)
	}
	for _, clock := range []int{2, 3, 4, 4096} {
		refuses(t, g, vertex(c, clock), api.ErrClock)
	}
	refuses(t, g, vertex(c, 1, a), api.ErrClock)
	refuses(t, g, vertex(c, 1, d), api.ErrClock)
	refuses(t, g, vertex(c, 1, c), api.ErrClock)
	refuses(t, g, vertex(c, 1, a, d), api.ErrClock)
}

// P10.2: with all parents held the clock is one more than the greatest of theirs, wherever that stands among them; with one that isn't held the others' clocks don't matter.
func TestFits(t *testing.T) {
	g := with(t, 64, vertex(a, 1), vertex(b, 2, a), vertex(c, 3, b), vertex(number(999), 1))
	for _, x := range []struct {
		clock   int
		parents []api.Hash
	}{
		{2, []api.Hash{a}},
		{3, []api.Hash{b}},
		{4, []api.Hash{c}},
		{3, []api.Hash{a, b}},
		{4, []api.Hash{a, c}},
		{4, []api.Hash{a, b, c}},
		{2, []api.Hash{number(999), a}},
		{3, []api.Hash{number(999), b}},
		{4, []api.Hash{number(999), c}},
	} {
		for clock := 2; clock <= 7; clock++ {
			v := vertex(d, clock, x.parents...)
			if how, e := g.Fit(v); clock == x.clock && (how != api.Took || e != api.OK) {
				t.Errorf("Fit%s: %d, %d", showVertex(v), how, e)
			}
			if clock != x.clock {
				refuses(t, g, v, api.ErrClock)
			}
		}
		refuses(t, g, vertex(d, 4096, x.parents...), api.ErrClock)
	}
	for _, clock := range []int{2, 3, 4, 5, 4096} {
		waits(t, g, vertex(number(100+clock), clock, a, d))
		waits(t, g, vertex(number(8000+clock), clock, d))
	}
}

// P10.2: Fit changes nothing, whatever it answers.
func TestFitChangesNothing(t *testing.T) {
	g := with(t, 1, vertex(a, 1))
	waits(t, g, vertex(d, 3, c))
	was := look(g)
	for _, x := range []struct {
		v   api.Vertex
		how int
		e   api.Errno
	}{
		{vertex(b, 1), api.Took, api.OK},
		{vertex(b, 2, a), api.Took, api.OK},
		{vertex(b, 2, c), api.Waits, api.OK},
		{vertex(c, 2, c), api.Waits, api.OK},
		{vertex(a, 7), api.Known, api.OK},
		{vertex(d, 7), api.Known, api.OK},
		{vertex(b, 2), api.HowNone, api.ErrClock},
		{vertex(b, 3, a), api.HowNone, api.ErrClock},
		{vertex(b, 3, a, a), api.HowNone, api.ErrParents},
	} {
		for range 3 {
			if how, e := g.Fit(x.v); how != x.how || e != x.e {
				t.Errorf("Fit%s: %d, %d", showVertex(x.v), how, e)
			}
			wantLook(t, "Fit"+showVertex(x.v), g, was)
		}
	}
}

// P10.2: that a vertex is held doesn't take those that waited for it, nor does it make them go.
func TestTookAlone(t *testing.T) {
	g := made(t, 2)
	waits(t, g, vertex(b, 2, a))
	waits(t, g, vertex(c, 3, b))
	takes(t, g, vertex(a, 1))
	wantList(t, "Waiting", g.Waiting(), b, c)
	wantList(t, "Order", g.Order(), a)
	settles(t, g, b, api.OK)
	wantList(t, "Waiting", g.Waiting(), c)
	wantList(t, "Order", g.Order(), a, b)
}

// P10.2: the oldest one goes, also where it could have been settled, and where it came to wait again it is the youngest one.
func TestOldestGoes(t *testing.T) {
	g := made(t, 3)
	waits(t, g, vertex(d, 2, a))
	waits(t, g, vertex(b, 3, number(7)))
	waits(t, g, vertex(c, 2, number(7)))
	takes(t, g, vertex(a, 1))
	wantNext(t, g, vertex(d, 2, a))
	waits(t, g, vertex(number(9), 2, number(7)), d)
	wantNoNext(t, g)
	wantList(t, "Waiting", g.Waiting(), b, c, number(9))
	waits(t, g, vertex(number(10), 2, number(7)), b)
	waits(t, g, vertex(b, 3, number(7)), c)
	wantList(t, "Waiting", g.Waiting(), number(9), number(10), b)
	if !g.Forget(number(10)) {
		t.Error("Forget")
	}
	waits(t, g, vertex(number(10), 2, number(7)))
	wantList(t, "Waiting", g.Waiting(), number(9), b, number(10))
	waits(t, g, vertex(c, 2, number(7)), number(9))
}

// P10.3: Next tells the oldest of those all of whose parents are held, also if it doesn't fit, and changes nothing.
func TestNext(t *testing.T) {
	g := made(t, 64)
	wantNoNext(t, g)
	waits(t, g, vertex(number(5), 2, a, b))
	waits(t, g, vertex(number(4), 2, b))
	waits(t, g, vertex(number(3), 9, a))
	waits(t, g, vertex(number(2), 2, a))
	wantNoNext(t, g)
	takes(t, g, vertex(a, 1))
	was := look(g)
	wantNext(t, g, vertex(number(3), 9, a))
	wantNext(t, g, vertex(number(3), 9, a))
	wantLook(t, "Next", g, was)
	takes(t, g, vertex(b, 1))
	wantNext(t, g, vertex(number(5), 2, a, b))
	settles(t, g, number(5), api.OK)
	wantNext(t, g, vertex(number(4), 2, b))
	if !g.Forget(number(4)) {
		t.Error("Forget")
	}
	wantNext(t, g, vertex(number(3), 9, a))
	settles(t, g, number(3), api.ErrClock)
	wantNext(t, g, vertex(number(2), 2, a))
	settles(t, g, number(2), api.OK)
	wantNoNext(t, g)
	wantList(t, "Order", g.Order(), a, number(2), b, number(5))
}

// P10.3: Ready changes nothing, whatever it answers; with ErrAbsent and ErrState Settle doesn't either.
func TestReady(t *testing.T) {
	g := with(t, 64, vertex(a, 1))
	waits(t, g, vertex(b, 4, number(7)))
	waits(t, g, vertex(c, 2, number(7), a))
	waits(t, g, vertex(d, 4097-1, number(6), number(7)))
	was := look(g)
	for _, h := range []api.Hash{a, number(6), number(7), {}} {
		settles(t, g, h, api.ErrAbsent)
		wantLook(t, "absent", g, was)
	}
	for _, h := range []api.Hash{b, c, d} {
		settles(t, g, h, api.ErrState)
		wantLook(t, "a parent lacks", g, was)
	}
	takes(t, g, vertex(number(7), 1))
	was = look(g)
	if g.Ready(b) != api.ErrClock || g.Ready(c) != api.OK || g.Ready(d) != api.ErrState {
		t.Errorf("Ready: %d, %d, %d", g.Ready(b), g.Ready(c), g.Ready(d))
	}
	wantLook(t, "Ready", g, was)
}

// P10.3: what doesn't fit waits no more, and may come again.
func TestSettleUnfit(t *testing.T) {
	g := made(t, 64)
	waits(t, g, vertex(c, 3, a, b))
	waits(t, g, vertex(d, 2, c))
	takes(t, g, vertex(a, 1))
	takes(t, g, vertex(b, 1))
	settles(t, g, c, api.ErrClock)
	settles(t, g, c, api.ErrAbsent)
	if g.Has(c) || g.Waits(c) || g.Clock(c) != 0 {
		t.Error("what didn't fit is there")
	}
	wantList(t, "Missing", g.Missing(), c)
	wantList(t, "Waiting", g.Waiting(), d)
	wantList(t, "Heads", g.Heads(), a, b)
	refuses(t, g, vertex(c, 3, a, b), api.ErrClock)
	takes(t, g, vertex(c, 2, a, b))
	settles(t, g, d, api.ErrClock)
}

// P10.3: Forget of what waits, first, last and between, of what is held, and of what is neither.
func TestForget(t *testing.T) {
	g := with(t, 64, vertex(a, 1))
	for i := range 5 {
		waits(t, g, vertex(number(10+i), 2, number(1+i)))
	}
	was := look(g)
	for _, h := range []api.Hash{a, number(1), number(3), {}, b} {
		if g.Forget(h) {
			t.Errorf("Forget%s", show([]api.Hash{h}))
		}
		wantLook(t, "Forget of what doesn't wait", g, was)
	}
	for _, x := range []struct {
		h    int
		left []api.Hash
	}{
		{12, []api.Hash{number(10), number(11), number(13), number(14)}},
		{14, []api.Hash{number(10), number(11), number(13)}},
		{10, []api.Hash{number(11), number(13)}},
		{11, []api.Hash{number(13)}},
		{13, nil},
	} {
		h := number(x.h)
		if !g.Waits(h) || !g.Forget(h) || g.Waits(h) || g.Forget(h) || g.Has(h) {
			t.Errorf("Forget%s", show([]api.Hash{h}))
		}
		wantList(t, "Waiting", g.Waiting(), x.left...)
	}
	wantList(t, "Missing", g.Missing())
	wantList(t, "Order", g.Order(), a)
}

// P10.4: what is told of one that is held, of one that waits, and of one that is neither.
func TestToldOfOne(t *testing.T) {
	g := with(t, 64, vertex(a, 1), vertex(b, 1), vertex(c, 2, a, b))
	waits(t, g, vertex(d, 5, number(3)))
	for _, x := range []struct {
		h           api.Hash
		held, waits bool
		clock       int
		parents     []api.Hash
	}{
		{a, true, false, 1, nil},
		{b, true, false, 1, nil},
		{c, true, false, 2, []api.Hash{a, b}},
		{d, false, true, 0, nil},
		{number(3), false, false, 0, nil},
		{api.Hash{}, false, false, 0, nil},
		{api.Hash{3, 31: 1}, false, false, 0, nil},
	} {
		want := api.ErrAbsent
		if x.held {
			want = api.OK
		}
		p, e := g.Parents(x.h)
		if g.Has(x.h) != x.held || g.Waits(x.h) != x.waits || g.Clock(x.h) != x.clock || e != want || !slices.Equal(p, x.parents) {
			t.Errorf("of %s: %v, %v, %d, %s, %d", show([]api.Hash{x.h}), g.Has(x.h), g.Waits(x.h), g.Clock(x.h), show(p), e)
		}
	}
	if g.Len() != 3 {
		t.Errorf("Len: %d", g.Len())
	}
}

// P10.4: the zero hash is one as others are.
func TestZeroHash(t *testing.T) {
	g := made(t, 1)
	waits(t, g, vertex(a, 2, api.Hash{}))
	wantList(t, "Missing", g.Missing(), api.Hash{})
	takes(t, g, api.Vertex{Clock: 1})
	knows(t, g, api.Vertex{})
	wantNext(t, g, vertex(a, 2, api.Hash{}))
	settles(t, g, a, api.OK)
	wantList(t, "Order", g.Order(), api.Hash{}, a)
	wantList(t, "Heads", g.Heads(), a)
	g = made(t, 1)
	refuses(t, g, api.Vertex{}, api.ErrClock)
}

// P10.4: what is missing is told rising, each once, and neither what is held nor what waits.
func TestMissing(t *testing.T) {
	g := with(t, 64, vertex(a, 1))
	waits(t, g, vertex(number(900), 3, number(800), a))
	waits(t, g, vertex(number(901), 3, number(700), number(800), b))
	waits(t, g, vertex(number(902), 3, number(600), number(700), number(901)))
	wantList(t, "Missing", g.Missing(), number(600), number(700), number(800), b)
	takes(t, g, vertex(number(800), 1))
	wantList(t, "Missing", g.Missing(), number(600), number(700), b)
	waits(t, g, vertex(number(700), 2, b))
	wantList(t, "Missing", g.Missing(), number(600), b)
	g.Forget(number(901))
	wantList(t, "Missing", g.Missing(), number(600), number(901), b)
	g.Forget(number(902))
	g.Forget(number(700))
	wantList(t, "Missing", g.Missing())
	wantList(t, "Waiting", g.Waiting(), number(900))
}

// P10.4: heads are those that no held one names; waiting ones make none.
func TestHeads(t *testing.T) {
	g := with(t, 64, vertex(c, 1), vertex(b, 1), vertex(d, 1))
	wantList(t, "Heads", g.Heads(), b, c, d)
	waits(t, g, vertex(number(5), 3, a, c))
	wantList(t, "Heads", g.Heads(), b, c, d)
	takes(t, g, vertex(a, 2, c))
	wantList(t, "Heads", g.Heads(), a, b, d)
	takes(t, g, vertex(number(2), 2, b, d))
	wantList(t, "Heads", g.Heads(), number(2), a)
	takes(t, g, vertex(number(1), 3, a, b))
	wantList(t, "Heads", g.Heads(), number(1), number(2))
	settles(t, g, number(5), api.OK)
	wantList(t, "Heads", g.Heads(), number(1), number(2), number(5))
	takes(t, g, vertex(number(9), 4, number(1), number(2), number(5)))
	wantList(t, "Heads", g.Heads(), number(9))
}
