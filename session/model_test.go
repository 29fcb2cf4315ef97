package session_test

import (
	"fmt"
	"math/rand/v2"
	"slices"
	"strings"
	"testing"

	"pleach/api"
	"pleach/msg"
	"pleach/session"
	"pleach/shelf"
)

// pair is a shelf, and the model of one, each over a keeper that answers by the same script.
type pair struct {
	s     *shelf.Shelf
	m     *model
	k, k2 *script
	came  map[string]int // how often what was answered
}

// newPair makes both.
func newPair(answers []api.Errno, came map[string]int) *pair {
	p := &pair{k: &script{answers: answers}, k2: &script{answers: answers}, came: came}
	p.s = shelf.New(p.k)
	p.m = &model{keep: func(b string) api.Errno { return p.k2.Keep([]byte(b)) }}
	return p
}

// tell hands both the same message, and tells what is said to it.
func (p *pair) tell(t *testing.T, m api.Message) []api.Message {
	t.Helper()
	out, taken, e := session.Answer(p.s, m)
	wantOut, wantTaken, wantE := p.m.answer(m)
	wantSame(t, showMessage(m), out, taken, e, wantOut, wantTaken, wantE)
	p.wantAlike(t)
	for _, x := range out {
		if msg.Check(x) != api.OK {
			t.Errorf("%s may not be", showMessage(x))
		}
		p.came[fmt.Sprintf("kind %d said to kind %d", x.Kind, m.Kind)]++
	}
	p.came[fmt.Sprintf("kind %d, error %d", m.Kind, e)]++
	p.came[fmt.Sprintf("held %v, lost %v", len(taken.IDs) > 0, len(taken.Lost) > 0)]++
	if t.Failed() {
		t.FailNow()
	}
	return out
}

// wantAlike fails, if one of both holds others than the other, or others wait, or its keeper was asked for others.
func (p *pair) wantAlike(t *testing.T) {
	t.Helper()
	if !slices.Equal(p.s.Order(), hashesOf(sorted(p.m.held...))) || !slices.Equal(p.s.Waiting(), hashesOf(p.m.wait)) || !slices.Equal(p.k.asked, p.k2.asked) {
		t.Errorf("it holds %s, %s wait; the model holds %s, %s wait", show(p.s.Order()), show(p.s.Waiting()), show(hashesOf(p.m.held)), show(hashesOf(p.m.wait)))
	}
}

// hello tells what the shelf says of itself; the model has to say the same.
func (p *pair) hello(t *testing.T, salt uint64) api.Message {
	t.Helper()
	m, want := session.Hello(p.s, salt), p.m.hello(salt)
	if !sameMessage(m, want) {
		t.Fatalf("Hello: %s; want %s", showMessage(m), showMessage(want))
	}
	p.wantAlike(t)
	return m
}

// somePool tells a graph's blocks, some whose clocks don't fit, some whose parents nobody has, and what is no block.
func somePool(r *rand.Rand, n int) []string {
	l := graph(r, n)
	for range n / 5 {
		l = append(l, misfit(r, l[:n]), made(fmt.Sprint("orphan", r.Uint32()), 2, gone))
	}
	return append(l, one(r, l...)+"\x00", one(r, l...)[1:], strings.Repeat("\x01", 100))
}

// someHello tells a hello of whatever heads, wants and digest.
func someHello(r *rand.Rand, pool []string) api.Message {
	m := api.Message{Kind: api.MsgHello, Salt: r.Uint64(), Heads: named(some(r, pool)...), Want: named(some(r, pool)...)}
	switch r.IntN(4) {
	case 0:
		m.Bloom = one(r, none(), all(), make([]byte, 32))
	case 1:
		m.Bloom = make([]byte, 8<<r.IntN(6))
		for i := range m.Bloom {
			m.Bloom[i] = byte(r.Uint32() | r.Uint32())
		}
	default:
		m.Bloom = digestOf(m.Salt, some(r, pool)...)
	}
	return m
}

// someMessage tells a message; now and then one that may not be.
func someMessage(r *rand.Rand, pool []string) api.Message {
	switch r.IntN(10) {
	case 0:
		m := someHello(r, pool)
		return one(r, api.Message{Kind: one(r, 0, 4, -1), Want: m.Want}, api.Message{Kind: api.MsgBlocks}, api.Message{Kind: api.MsgWant, Want: m.Want, Salt: 1},
			api.Message{Kind: api.MsgHello, Heads: m.Heads}, api.Message{Kind: api.MsgBlocks, Blocks: append(rows(pool...), nil)}, api.Message{Kind: api.MsgWant, Want: []api.Hash{{1}, {1}}})
	case 1, 2:
		return wantMsg(some(r, pool)...)
	case 3, 4, 5:
		return someHello(r, pool)
	}
	return blocksMsg(mixed(r, append(some(r, pool), one(r, pool...)))...)
}

// someScript tells what a keeper answers: mostly OK; now and then the power goes.
func someScript(r *rand.Rand, n int) []api.Errno {
	l := make([]api.Errno, n)
	for i := range l {
		if r.IntN(8) == 0 {
			l[i] = one(r, api.ErrRoom, api.ErrMany, api.ErrClock, -3)
		}
	}
	if r.IntN(4) == 0 {
		l[r.IntN(n)] = api.ErrPower
	}
	return l
}

// P20.1, P20.2, P20.3: whatever a shelf is told, in whatever order, over whatever keeper, it says what the words say, and holds what they say; two that talk with one another, too.
func TestWords(t *testing.T) {
	r := chance()
	came := map[string]int{}
	for range 120 {
		n := 3 + r.IntN(20)
		pool := somePool(r, n)
		x, y := newPair(someScript(r, n), came), newPair(nil, came)
		y.tell(t, blocksMsg(mixed(r, pool)[:1+r.IntN(len(pool))]...))
		for range 12 {
			x.tell(t, someMessage(r, pool))
			if r.IntN(3) == 0 {
				for _, m := range y.tell(t, x.hello(t, r.Uint64())) {
					for _, m := range x.tell(t, m) {
						y.tell(t, m)
					}
				}
			}
		}
	}
	for _, x := range []string{
		"kind 3 said to kind 1", "kind 2 said to kind 1", "kind 3 said to kind 2", "kind 1, error 0", "kind 2, error 0", "kind 3, error 0", "kind 3, error 7",
		"kind 0, error 40", "kind 3, error 1", "kind 2, error 41", "kind 1, error 60", "kind 3, error 4", "kind 2, error 130", "held true, lost false", "held true, lost true",
	} {
		if came[x] < 5 {
			t.Errorf("%s: %d times alone", x, came[x])
		}
	}
}

// P20.2: so many come that more than MaxWaiting would wait.
func TestWordsCrowd(t *testing.T) {
	r := chance()
	came := map[string]int{}
	for range 3 {
		pool := mixed(r, somePool(r, 130))
		p := newPair(someScript(r, 20), came)
		for l := range slices.Chunk(slices.Concat(pool, mixed(r, pool)), 40) {
			p.tell(t, blocksMsg(l...))
		}
		p.tell(t, someHello(r, pool))
		p.hello(t, r.Uint64())
	}
	if came["held true, lost true"] == 0 {
		t.Error("nothing was lost")
	}
}
