package session_test

import (
	"fmt"
	"math/rand/v2"
	"slices"
	"testing"

	"pleach/api"
	"pleach/msg"
	"pleach/session"
	"pleach/shelf"
)

// side is a shelf that talks, what is under way to it, and what came to it.
type side struct {
	s     *shelf.Shelf
	under []api.Message
	came  []string   // blocks that were handed in
	lost  []api.Hash // those that Answer told as lost
}

// deliver hands one message that is under way to a side, which is so no more, and sends what is said to it; that goes as bytes, as it does between replicas.
func (x *side) deliver(t *testing.T, i int, to *side) {
	t.Helper()
	m := x.under[i]
	x.under = slices.Delete(slices.Clone(x.under), i, i+1)
	out, taken, e := session.Answer(x.s, m)
	if e != api.OK {
		t.Fatalf("%s: %d", showMessage(m), e)
	}
	x.came = append(x.came, blocksIn([]api.Message{m})...)
	x.lost = append(x.lost, taken.Lost...)
	for _, m := range out {
		b, e := msg.Encode(m)
		back, err := msg.Decode(b)
		if e != api.OK || err != nil {
			t.Fatalf("%s may not be: %d, %v", showMessage(m), e, err)
		}
		to.under = append(to.under, back)
	}
}

// twist is what befalls messages that are under way between two: which one is delivered next.
type twist func(x, y *side)

// inTurns lets all come in its order.
func inTurns(x, y *side) {}

// anyOrder lets messages come in another order, and now and then once more.
func anyOrder(r *rand.Rand) twist {
	return func(x, y *side) {
		for _, z := range []*side{x, y} {
			z.under = mixed(r, z.under)
			if len(z.under) > 0 && r.IntN(6) == 0 {
				z.under = append(z.under, z.under[0])
			}
		}
	}
}

// talk delivers all that is under way between two, until nothing is.
func talk(t *testing.T, x, y *side, befalls twist) {
	t.Helper()
	for len(x.under)+len(y.under) > 0 {
		befalls(x, y)
		if len(y.under) > 0 {
			y.deliver(t, 0, x)
		}
		if len(x.under) > 0 {
			x.deliver(t, 0, y)
		}
	}
}

// lie is what a digest says of more than it has.
type lie func(b []byte)

func truth([]byte) {}

// ofAll says that all is there.
func ofAll(b []byte) { copy(b, slices.Repeat([]byte{255}, len(b))) }

// ofSome says of some others that they are there.
func ofSome(r *rand.Rand) lie {
	return func(b []byte) {
		for i := range b {
			b[i] |= byte(r.Uint32()) | byte(r.Uint32())&byte(r.Uint32())
		}
	}
}

// lack is what a side has to tell the other one when it says its hello: its heads, and what it misses.
type lack struct{ heads, missed []api.Hash }

// hello sends a side's hello to the other one.
func (x *side) hello(to *side, salt uint64, lies lie) lack {
	m := session.Hello(x.s, salt)
	lies(m.Bloom)
	to.under = append(to.under, m)
	return lack{x.s.Heads(), x.s.Missing()}
}

// done tells whether a transaction is held by a side, or waits, or came and was lost or refused. (Whatever refuses a block here does so again.)
func (x *side) done(h api.Hash) bool {
	if x.s.Has(h) || x.s.Waits(h) || slices.Contains(x.lost, h) {
		return true
	}
	b, is := find(x.came, h)
	if !is {
		return false
	}
	_, err := x.s.Take([]byte(b))
	return err != nil
}

// wantEnough fails, if what P20.4 says doesn't hold of a side that has said its hello when it lacked that, and another one that held those.
func wantEnough(t *testing.T, x *side, m lack, y *side, held []api.Hash) {
	t.Helper()
	for _, h := range m.heads {
		if !y.done(h) {
			t.Fatalf("the head %s was not told", show([]api.Hash{h}))
		}
	}
	for _, h := range m.missed {
		if slices.Contains(held, h) && !x.done(h) {
			t.Fatalf("%s, which is missed, was not told", show([]api.Hash{h}))
		}
	}
}

// someSide tells a side whose shelf was handed some of a pool: a closed part of it, and others. Its keeper refuses some.
func someSide(r *rand.Rand, graph, pool []string, refuses refuser) *side {
	l := closed(graph, some(r, graph))
	if r.IntN(5) == 0 {
		l = nil
	}
	return &side{s: over(refuses, append(l, mixed(r, some(r, pool))...)...)}
}

// closed tells blocks of a graph with all that they have seen, in the graph's order.
func closed(graph, l []string) []string {
	out := []string{}
	for _, b := range slices.Backward(graph) {
		if slices.Contains(l, b) || slices.ContainsFunc(out, func(x string) bool { return slices.Contains(nodeOf(x).Parents, hashOf(b)) }) {
			out = append(out, b)
		}
	}
	slices.Reverse(out)
	return out
}

// P20.4: whatever two shelves hold, whatever waits in them, whatever their digests lie about, whatever is refused and in whatever order the messages come: what is said to two hellos is enough.
func TestEnough(t *testing.T) {
	r := chance()
	refused, lost := 0, 0
	for i := range 300 {
		g := graph(r, 1+r.IntN(40))
		pool := slices.Concat(g, []string{misfit(r, g), misfit(r, g), made("orphan", 2, gone), made("other", 2, gone)})
		if i%10 == 0 {
			for n := range 70 {
				pool = append(pool, made(fmt.Sprint("orphan", n), 2, gone))
			}
		}
		k := refuser{}
		if i%3 == 0 {
			k[one(r, g...)] = one(r, api.ErrRoom, api.ErrMany)
		}
		x, y := someSide(r, g, pool, nil), someSide(r, g, pool, k)
		lies, befalls := one(r, truth, ofAll, ofSome(r)), one(r, inTurns, anyOrder(r))
		lackX := x.hello(y, r.Uint64(), lies)
		heldX, heldY := x.s.Order(), y.s.Order()
		if r.IntN(2) == 0 { // one hello behind all that was said to the other one
			talk(t, x, y, befalls)
			wantEnough(t, x, lackX, y, heldY)
			heldX = x.s.Order()
		}
		lackY := y.hello(x, r.Uint64(), lies)
		talk(t, x, y, befalls)
		wantEnough(t, x, lackX, y, heldY)
		wantEnough(t, y, lackY, x, heldX)
		for _, h := range heldX {
			if !x.s.Has(h) {
				t.Fatal("what was held isn't any more")
			}
		}
		for _, z := range []*side{x, y} {
			lost += len(z.lost)
			for _, b := range z.came {
				if h := hashOf(b); !z.s.Has(h) && !z.s.Waits(h) && !slices.Contains(z.lost, h) {
					refused++
				}
			}
		}
	}
	if refused < 10 || lost < 10 {
		t.Errorf("%d were refused, %d lost alone", refused, lost)
	}
}

// W4's U: all that either holds, and what waits at one of the two, whose parents are all in it and whose clock fits theirs.
func union(pool []string, x, y *shelf.Shelf) []string {
	out := []string{}
	for {
		n := len(out)
		for _, b := range pool {
			h := hashOf(b)
			if slices.Contains(out, b) || !x.Has(h) && !y.Has(h) && !x.Waits(h) && !y.Waits(h) {
				continue
			}
			if allIn(out, nodeOf(b).Parents) && fits(out, b) {
				out = append(out, b)
			}
		}
		if len(out) == n {
			return out
		}
	}
}

// longest tells W4's L: how many blocks the longest way of parents has through those of a list alone; parents stand ahead.
func longest(l []string) int {
	most, at := 0, map[api.Hash]int{}
	for _, b := range l {
		n := 1
		for _, h := range nodeOf(b).Parents {
			n = max(n, at[h]+1)
		}
		at[hashOf(b)] = n
		most = max(most, n)
	}
	return most
}

// round is one of W4's rounds: each says its hello to the other one, and all that is under way is delivered.
func round(t *testing.T, x, y *side, salt uint64, lies lie, befalls twist) {
	t.Helper()
	x.hello(y, salt, lies)
	y.hello(x, salt+1, lies)
	talk(t, x, y, befalls)
}

// wantCaughtUp does W4's rounds, and fails, if both don't hold just U then; it tells how many rounds it took.
func wantCaughtUp(t *testing.T, pool []string, x, y *side, lies lie, befalls twist) int {
	t.Helper()
	u := union(pool, x.s, y.s)
	fresh := slices.DeleteFunc(slices.Clone(u), func(b string) bool { return x.s.Has(hashOf(b)) && y.s.Has(hashOf(b)) })
	others := slices.DeleteFunc(slices.Clone(pool), func(b string) bool {
		return slices.Contains(u, b) || !x.s.Waits(hashOf(b)) && !y.s.Waits(hashOf(b))
	})
	if len(fresh)+len(others) > api.MaxWaiting {
		t.Fatalf("%d new ones, %d others that wait: too many", len(fresh), len(others))
	}
	want := hashesOf(sorted(u...))
	took := 1
	for i := range 2*longest(fresh) + 2 {
		round(t, x, y, uint64(2*i+1), lies, befalls)
		if !slices.Equal(x.s.Order(), want) || !slices.Equal(y.s.Order(), want) {
			took = i + 2
		}
	}
	if !slices.Equal(x.s.Order(), want) || !slices.Equal(y.s.Order(), want) {
		t.Fatalf("behind %d rounds: %s and %s; want %s", 2*longest(fresh)+2, show(x.s.Order()), show(y.s.Order()), show(want))
	}
	return took
}

// W4: two shelves that do rounds come to hold the same, whatever each held, whatever waited, whatever the digests lie about.
func TestRounds(t *testing.T) {
	r := chance()
	for range 150 {
		g := graph(r, 1+r.IntN(50))
		pool := slices.Concat(g, []string{misfit(r, g), misfit(r, g), misfit(r, g), made("orphan", 2, gone)})
		last := pool[len(pool)-2]
		pool = append(pool, made("behind one that doesn't fit", nodeOf(last).Clock+1, last))
		x, y := someSide(r, g, pool, nil), someSide(r, g, pool, nil)
		wantCaughtUp(t, pool, x, y, one(r, truth, ofAll, ofSome(r)), one(r, inTurns, anyOrder(r)))
	}
}

// W4: a row of just as many as may wait, of which the digests lie all the time: each round tells one more, from the last one back to the first.
func TestRoundsOneByOne(t *testing.T) {
	l := []string{a}
	for i := 1; i < api.MaxWaiting; i++ {
		l = append(l, made("row", i+1, l[i-1]))
	}
	x, y := &side{s: with(l...)}, &side{s: with()}
	if took := wantCaughtUp(t, l, x, y, ofAll, inTurns); took != api.MaxWaiting {
		t.Errorf("it took %d rounds", took)
	}
	x, y = &side{s: with(l...)}, &side{s: with()}
	if took := wantCaughtUp(t, l, x, y, truth, inTurns); took != 1 {
		t.Errorf("where nothing lies it took %d rounds", took)
	}
}

// W4: what waits at one for what waits at the other one, by turns, is held by both in the end.
func TestRoundsWaitForOneAnother(t *testing.T) {
	l := []string{a}
	for i := 1; i < 20; i++ {
		l = append(l, made("row", i+1, l[i-1]))
	}
	for _, lies := range []lie{truth, ofAll} {
		x, y := &side{s: with()}, &side{s: with()}
		for i, b := range l {
			[]*side{x, y}[i%2].s.Take([]byte(b))
		}
		wantAll(t, "one", x.s, []string{a}, l[2], l[4], l[6], l[8], l[10], l[12], l[14], l[16], l[18])
		wantCaughtUp(t, l, x, y, lies, inTurns)
		wantAll(t, "one, then", x.s, l)
		wantAll(t, "the other one, then", y.s, l)
	}
}

// W4: where both hold the same, nothing is said to a hello, with whatever salt.
func TestRoundsOfAlike(t *testing.T) {
	l := []string{a, b, c, a2, a3, f}
	w := made("w", 2, gone)
	x, y := &side{s: with(append(l, w)...)}, &side{s: with(l...)}
	for salt := range uint64(50) {
		wantSaid(t, "alike", x.s, session.Hello(y.s, salt))
		wantSaid(t, "alike", y.s, session.Hello(x.s, salt))
		wantSaid(t, "itself", x.s, session.Hello(x.s, salt))
	}
	wantCaughtUp(t, append(l, w), x, y, truth, inTurns)
	wantAll(t, "one", x.s, l, w)
	wantAll(t, "the other one", y.s, l)
}
