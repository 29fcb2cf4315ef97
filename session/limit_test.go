package session_test

import (
	"fmt"
	"slices"
	"strings"
	"testing"

	"pleach/api"
	"pleach/msg"
	"pleach/node"
	"pleach/session"
	"pleach/shelf"
)

// wide tells so many blocks without parents.
func wide(n int) []string {
	l := []string{}
	for i := range n {
		l = append(l, made(fmt.Sprint("wide", i), 1))
	}
	return l
}

// byHash tells blocks by their hashes, rising: that is the one order of blocks without parents.
func byHash(l []string) []string {
	find := map[api.Hash]string{}
	for _, b := range l {
		find[hashOf(b)] = b
	}
	out := []string{}
	for _, h := range named(l...) {
		out = append(out, find[h])
	}
	return out
}

// sized tells the block of a transaction without parents that has just so many bytes, of at least some hundred, one a mark.
func sized(mark, n int) string {
	x := api.Node{Author: 1, Clock: 1, Ops: []api.Op{{Kind: api.OpPut, Key: fmt.Sprintf("%06d", mark)}}}
	more := func(text int) {
		x.Ops = append(x.Ops, api.Op{Kind: api.OpPut, Key: "k", Text: strings.Repeat("x", text)})
	}
	for n-node.Size(x) > 60000 {
		more(50000)
	}
	more(n - node.Size(x) - 20)
	last := &x.Ops[len(x.Ops)-1]
	for node.Size(x) < n {
		last.Text += "y"
	}
	if b := blockOf(x); len(b) == n {
		return b
	}
	panic("no block of so many bytes")
}

// batches tells blocks as messages, so many in each.
func batches(l []string, sizes ...int) []api.Message {
	out := []api.Message{}
	for _, n := range sizes {
		out = append(out, blocksMsg(l[:n]...))
		l = l[n:]
	}
	if len(l) > 0 {
		panic("some are left")
	}
	return out
}

// wantBatches fails, if to a hello, a hello that wants all, and a want of all other messages are said than those of so many blocks; a MsgWant comes behind them.
func wantBatches(t *testing.T, what string, l []string, sizes ...int) {
	t.Helper()
	l = byHash(l)
	s := with(l...)
	want := batches(l, sizes...)
	wantSaid(t, what, s, helloMsg(none()), want...)
	wantSaid(t, what, s, helloMsg(none(), gone), append(slices.Clone(want), wantMsg(gone))...)
	wantSaid(t, what, s, wanting(helloMsg(all(), gone, f), l...), append(slices.Clone(want), wantMsg(gone, f))...)
	wantSaid(t, what, s, wantMsg(l...), want...)
}

// P20.2, P20.3: as many blocks as a message may have, one fewer, one more, and several messages: filled from the front.
func TestBatches(t *testing.T) {
	l := wide(1100)
	for n, sizes := range map[int][]int{
		1: {1}, 2: {2}, 127: {127}, 128: {128}, 255: {255}, 256: {256}, 257: {256, 1}, 258: {256, 2}, 511: {256, 255}, 512: {256, 256}, 513: {256, 256, 1}, 1100: {256, 256, 256, 256, 76},
	} {
		wantBatches(t, fmt.Sprint(n, " blocks"), l[:n], sizes...)
	}
}

// P20.2, P20.3: as many bytes as a message may have, one more, and the longest blocks that may be.
func TestBatchBytes(t *testing.T) {
	of := func(n int, sizes ...int) []string {
		l := []string{}
		for i := range n {
			l = append(l, sized(i, sizes[min(i, len(sizes)-1)]))
		}
		return l
	}
	wantBatches(t, "the longest", of(1, api.MaxNode), 1)
	wantBatches(t, "two of the longest", of(2, api.MaxNode), 1, 1)
	wantBatches(t, "three just fill it", of(3, 699047), 3)
	wantBatches(t, "three are too long by three bytes", of(3, 699048), 2, 1)
	wantBatches(t, "two just fill it", of(2, 1048572), 2)
	wantBatches(t, "two are too long by two bytes", of(2, 1048573), 1, 1)
	wantBatches(t, "two are too long by a byte", of(2, 1048572, 1048573), 1, 1)
	if b, e := msg.Encode(blocksMsg(of(3, 699047)...)); e != api.OK || len(b) != api.MaxMessage {
		t.Errorf("three: %d bytes, %d", len(b), e)
	}
	if b, e := msg.Encode(blocksMsg(of(2, 1048572)...)); e != api.OK || len(b) != api.MaxMessage {
		t.Errorf("two: %d bytes, %d", len(b), e)
	}
	wantBatches(t, "seven", of(7, 699047), 3, 3, 1)
	wantBatches(t, "many by their bytes", of(50, 100000), 20, 20, 10)
}

// P20.2, P20.3: behind a long block that begins a new message, short ones stand in that one, though the message ahead of it has room for them: none is told out of its order.
func TestBatchesNotMended(t *testing.T) {
	l := append(wide(40), sized(1, api.MaxNode), sized(2, api.MaxNode), sized(3, api.MaxNode-9), sized(4, 700000), sized(5, 700000))
	l = byHash(l)
	s := with(l...)
	want := filled(l...)
	if len(want) < 3 {
		t.Fatalf("%d messages alone", len(want))
	}
	wantSaid(t, "a hello", s, helloMsg(none()), want...)
	wantSaid(t, "a want", s, wantMsg(l...), want...)
}

// P20.1, P20.2: a shelf that holds as many as may be, all of them heads: its hello may be; an empty one asks for all of them at once, and is told all of them.
func TestMostHeads(t *testing.T) {
	l := byHash(wide(api.MaxNodes))
	s, empty := with(l...), shelf.New(nil)
	wantHello(t, "the most", s, 77, l, l)
	m := session.Hello(s, 77)
	wantSaid(t, "to the most", empty, m, wantMsg(l...))
	sizes := slices.Repeat([]int{256}, 16)
	wantSaid(t, "the most", s, wantMsg(l...), batches(l, sizes...)...)
	wantSaid(t, "the most", s, helloMsg(none()), batches(l, sizes...)...)
	wantSaid(t, "the most, and as many asked for", s, helloMsg(none(), wide(2 * api.MaxNodes)[api.MaxNodes:]...), append(batches(l, sizes...), wantMsg(wide(2 * api.MaxNodes)[api.MaxNodes:]...))...)
	out, _, _ := session.Answer(s, session.Hello(empty, 5))
	for _, x := range out {
		session.Answer(empty, x)
	}
	if look(empty) != look(s) {
		t.Error("the empty one hasn't come to hold the most")
	}
	wantSaid(t, "then", empty, m)
}

// P20.1: as many wait as may, each with as many parents as may be, which nobody has: just MaxWant are missed, and the hello may be.
func TestMostMissed(t *testing.T) {
	l := wide(api.MaxWaiting * api.MaxParents)
	s := shelf.New(nil)
	for i := range api.MaxWaiting {
		s.Take([]byte(made(fmt.Sprint("w", i), 2, l[i*api.MaxParents:(i+1)*api.MaxParents]...)))
	}
	wantHello(t, "the most", s, 1, nil, nil, l...)
	m := session.Hello(s, 1)
	if len(m.Want) != api.MaxWant || len(s.Waiting()) != api.MaxWaiting {
		t.Errorf("%d are missed", len(m.Want))
	}
	m.Bloom = all()
	l = byHash(l)
	wantSaid(t, "to the most", with(l...), m, batches(l, slices.Repeat([]int{256}, 16)...)...)
}

// P20.2: a want of as many as may be, of which a few are held.
func TestMostWanted(t *testing.T) {
	l := byHash(wide(api.MaxWant))
	few := []string{l[0], l[1], l[2000], l[4094], l[4095]}
	s := with(append(few, a, b)...)
	wantSaid(t, "few", s, wantMsg(l...), blocksMsg(few...))
	wantSaid(t, "few", s, wanting(helloMsg(all()), l...), blocksMsg(few...))
	wantSaid(t, "few", with(), wantMsg(l...))
}

// P20.2: the longest row of parents that may be is said in its order, and taken so.
func TestLongestRow(t *testing.T) {
	l := []string{a}
	for i := 1; i < api.MaxNodes; i++ {
		l = append(l, made("row", i+1, l[i-1]))
	}
	s, empty := with(l...), shelf.New(nil)
	out, _, _ := session.Answer(s, session.Hello(empty, 3))
	if len(out) != 16 || !slices.Equal(blocksIn(out), l) {
		t.Fatalf("%d messages, %d blocks", len(out), len(blocksIn(out)))
	}
	for i, x := range out {
		wantTakes(t, "the row", empty, blocksIn(out[i:i+1]), l[256*i:256*i+len(x.Blocks)])
	}
	if look(empty) != look(s) {
		t.Error("the empty one hasn't come to hold the row")
	}
}
