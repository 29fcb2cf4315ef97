package session_test

import (
	"slices"
	"testing"

	"pleach/api"
	"pleach/msg"
	"pleach/session"
	"pleach/shelf"
)

// fill writes over a list, the room behind it too.
func fill[T any](l []T, x T) {
	l = l[:cap(l)]
	for i := range l {
		l[i] = x
	}
}

// roomy tells a list like l with room behind it, and the whole of it.
func roomy[T any](l []T, room ...T) (given, whole []T) {
	whole = append(slices.Clone(l), room...)
	return whole[:len(l)], whole
}

// roomyMessage tells a message like m, with room behind each list of it, and the wholes of its lists.
func roomyMessage(m api.Message) (given, whole api.Message) {
	given, whole = m, m
	given.Heads, whole.Heads = roomy(m.Heads, api.Hash{7}, api.Hash{6})
	given.Bloom, whole.Bloom = roomy(m.Bloom, 7, 6)
	given.Want, whole.Want = roomy(m.Want, api.Hash{7}, api.Hash{6})
	given.Blocks, whole.Blocks = roomy(m.Blocks, []byte{7}, []byte{6})
	whole.Blocks = slices.Clone(whole.Blocks)
	for i, row := range m.Blocks {
		given.Blocks[i], whole.Blocks[i] = roomy(row, 7, 6)
	}
	return given, whole
}

// copyMessage tells a message like m, in memory of its own.
func copyMessage(m api.Message) api.Message {
	m.Heads, m.Bloom, m.Want, m.Blocks = slices.Clone(m.Heads), slices.Clone(m.Bloom), slices.Clone(m.Want), slices.Clone(m.Blocks)
	for i := range m.Blocks {
		m.Blocks[i] = slices.Clone(m.Blocks[i])
	}
	return m
}

// copyMessages tells messages like these, in memory of their own.
func copyMessages(l []api.Message) []api.Message {
	out := []api.Message{}
	for _, m := range l {
		out = append(out, copyMessage(m))
	}
	return out
}

// fills tells, for each list of messages, what writes over it and the room behind it; rows stand ahead of the list that has them.
func fills(l []api.Message) []func() {
	out := []func(){}
	for _, m := range l {
		out = append(out, func() { fill(m.Heads, api.Hash{0xee}) }, func() { fill(m.Bloom, 0xee) }, func() { fill(m.Want, api.Hash{0xee}) })
		for _, row := range m.Blocks {
			out = append(out, func() { fill(row, 0xee) })
		}
		out = append(out, func() { fill(m.Blocks, []byte{0xee}) })
	}
	return append(out, func() { fill(l, api.Message{Kind: 0xee}) })
}

// fillMessages writes over all of them.
func fillMessages(l []api.Message) {
	for _, f := range fills(l) {
		f()
	}
}

// unlike tells how many lists two answers have that aren't the same; those within lists of rows are looked at one by one.
func unlike(l, other []api.Message) int {
	n := 0
	for i, m := range l {
		for _, same := range []bool{slices.Equal(m.Heads, other[i].Heads), slices.Equal(m.Bloom, other[i].Bloom), slices.Equal(m.Want, other[i].Want)} {
			if !same {
				n++
			}
		}
		for k, row := range m.Blocks {
			if string(row) != string(other[i].Blocks[k]) {
				n++
			}
		}
	}
	return n
}

// wantApart fails, if two lists of an answer share memory: if writing over one, and the room behind it, changes another one.
func wantApart(t *testing.T, what string, ask func() []api.Message) {
	t.Helper()
	want := copyMessages(ask())
	for i := range fills(want) {
		got := ask()
		lists := slices.Clone(got) // the lists of the answer, though the list of messages is written over
		view := slices.Clone(got)  // their rows, though the list of rows is written over
		for k := range view {
			view[k].Blocks = slices.Clone(view[k].Blocks)
		}
		fills(got)[i]()
		if n := unlike(view, want); n > 1 {
			t.Errorf("%s: writing over list %d has changed %d lists", what, i, n)
		}
		changed := 0
		for k, m := range lists {
			if !slices.EqualFunc(m.Blocks, want[k].Blocks, func(a, b []byte) bool { return string(a) == string(b) }) {
				changed++
			}
		}
		if changed > 1 {
			t.Errorf("%s: writing over list %d has changed the blocks of %d messages", what, i, changed)
		}
	}
}

// busy tells a shelf that holds some, in which others wait.
func busy() *shelf.Shelf {
	return with(a, b, c, a2, a3, made("w", 2, gone), made("v", 3, made("u", 2, gone), made("w", 2, gone)))
}

// someAsked tells messages to which much is said.
func someAsked() map[string]api.Message {
	unknown := []string{gone, f, made("x", 1), made("y", 1)}
	return map[string]api.Message{
		"nothing, all heads unknown": helloMsg(all(), unknown...),
		"all, and heads":             helloMsg(none(), append(unknown, a, c)...),
		"wants":                      wanting(helloMsg(all(), c), a, b, gone, a3),
		"a true one":                 session.Hello(with(a, b, f, gone), 9),
		"a want":                     wantMsg(a, b, a2, gone),
		"a want of nothing":          wantMsg(),
	}
}

// P20.5: what Hello answers is new memory, each list of it: written over, it changes neither the shelf nor another answer.
func TestHelloMemory(t *testing.T) {
	for _, s := range []*shelf.Shelf{busy(), with(), with(a), with(b)} {
		was, want := look(s), copyMessage(session.Hello(s, 5))
		kept := session.Hello(s, 5)
		fillMessages([]api.Message{session.Hello(s, 5)})
		if look(s) != was || !sameMessage(kept, want) || !sameMessage(session.Hello(s, 5), want) {
			t.Error("a hello shares memory")
		}
		wantApart(t, "a hello", func() []api.Message { return []api.Message{session.Hello(s, 5)} })
		wantTakes(t, "more", s, []string{made("more", 1), made("most", 9, made("no", 8, gone))}, []string{made("more", 1)})
		if !sameMessage(kept, want) {
			t.Error("an old hello has changed with the shelf")
		}
	}
}

// P20.5: what is handed in stays as it was, the room behind its lists and within them too, whatever comes of it.
func TestHandedIn(t *testing.T) {
	list := wrongMessages()
	for what, m := range someAsked() {
		list[what] = m
	}
	list["blocks"] = blocksMsg(f, c, "\x09", b, a, a, d, a2)
	list["blocks that are known"] = blocksMsg(a, b, made("w", 2, gone))
	list["no message"] = api.Message{}
	for what, m := range list {
		for _, s := range []*shelf.Shelf{with(), busy(), deadShelf(), over(refuser{b: api.ErrRoom, c: api.ErrPower})} {
			given, whole := roomyMessage(m)
			want, room := copyMessage(whole), copyMessage(api.Message{Blocks: given.Blocks[:cap(given.Blocks)]})
			session.Answer(s, given)
			if !sameMessage(whole, want) || !sameMessage(given, m) || !sameMessage(api.Message{Blocks: given.Blocks[:cap(given.Blocks)]}, room) {
				t.Errorf("%s: what was handed in has changed", what)
			}
		}
	}
}

// P20.5: what is said is new memory, each list of it: it shares none with the shelf, with what was handed in, or with what was said before.
func TestSaidMemory(t *testing.T) {
	s := busy()
	was := look(s)
	for what, m := range someAsked() {
		given, whole := roomyMessage(m)
		wantWhole := copyMessage(whole)
		ask := func() []api.Message {
			out, _, e := session.Answer(s, given)
			if e != api.OK {
				t.Fatalf("%s: %d", what, e)
			}
			return out
		}
		kept := ask()
		want := copyMessages(kept)
		wantApart(t, what, ask)
		fillMessages(ask())
		if look(s) != was || !sameMessage(whole, wantWhole) || !slices.EqualFunc(kept, want, sameMessage) || !slices.EqualFunc(ask(), want, sameMessage) {
			t.Errorf("%s: an answer shares memory", what)
		}
		fillMessages([]api.Message{given})
		if look(s) != was || !slices.EqualFunc(kept, want, sameMessage) {
			t.Errorf("%s: what was handed in is kept", what)
		}
	}
}

// P20.5: several messages that are said to one share no memory, either.
func TestManySaidMemory(t *testing.T) {
	s := with(byHash(wide(258))...)
	ask := func() []api.Message {
		out, _, _ := session.Answer(s, helloMsg(none(), gone, f))
		return out
	}
	if l := ask(); len(l) != 3 {
		t.Fatalf("%d messages", len(l))
	}
	wantApart(t, "three messages", ask)
}

// P20.5: nothing is kept of blocks that are handed in, held or waiting: they may be written over behind it, by the keeper, too.
func TestBlocksKeptNot(t *testing.T) {
	l := []string{f, c, b, a2, a, made("w", 2, gone)}
	want := look(with(l...))
	for _, k := range []shelf.Keeper{nil, spoiler{}} {
		s := shelf.New(k)
		m, _ := roomyMessage(blocksMsg(l...))
		session.Answer(s, m)
		fillMessages([]api.Message{m})
		if look(s) != want {
			t.Error("what was handed in is kept")
		}
	}
	one := []byte(a + b + c) // three that stand in one row, each with the next ones as its room
	m := api.Message{Kind: api.MsgBlocks, Blocks: [][]byte{one[len(a)+len(b):], one[len(a) : len(a)+len(b)], one[:len(a)]}}
	s := over(spoiler{})
	session.Answer(s, m)
	if string(one) != a+b+c {
		t.Error("what was handed in has changed")
	}
	fill(one, 0xee)
	if look(s) != look(with(a, b, c)) {
		t.Error("what was handed in in one row is kept")
	}
}

// spoiler is a keeper that writes over what it is handed: that is its own.
type spoiler struct{}

func (spoiler) Keep(b []byte) api.Errno {
	fill(b, 0xcc)
	return api.OK
}

// P20.5: IDs and Lost are new memory, and share none, though several blocks told them.
func TestTakenMemory(t *testing.T) {
	y, z := made("y", 2, a), made("z", 5, a)
	ask := func() (*shelf.Shelf, api.Taken) {
		s := with(y, d, z, c, f)
		_, taken, e := session.Answer(s, blocksMsg(a, a3, b, a2))
		if e != api.OK {
			t.Fatal(e)
		}
		return s, taken
	}
	ids, lost := hashesOf([]string{a, y, a3, b, c, a2, f}), hashesOf([]string{d, z})
	s, one := ask()
	_, two := ask()
	was := look(s)
	fill(one.IDs, api.Hash{0xee})
	if !sameTaken(two, api.Taken{IDs: ids, Lost: lost}) || !slices.Equal(one.Lost, lost) {
		t.Errorf("IDs share memory: Lost %s", show(one.Lost))
	}
	fill(two.Lost, api.Hash{0xee})
	if !slices.Equal(two.IDs, ids) || !slices.Equal(one.Lost, lost) {
		t.Errorf("Lost shares memory: IDs %s", show(two.IDs))
	}
	if look(s) != was {
		t.Error("what was told is the shelf's")
	}
	wantTakes(t, "more", s, []string{gone}, []string{gone})
}

// P20.5: the shelf is neither copied nor kept: what it is handed elsewhere is told at once, and two shelves have nothing in common.
func TestShelfItself(t *testing.T) {
	s, other := with(a), with()
	m := helloMsg(none())
	wantSaid(t, "one", s, m, blocksMsg(a))
	wantSaid(t, "the other one", other, m)
	s.Take([]byte(b))
	wantSaid(t, "one, then", s, m, blocksMsg(a, b))
	wantTakes(t, "one takes", s, []string{c}, []string{c})
	if !s.Has(hashOf(c)) || other.Len() != 0 || msg.Check(session.Hello(other, 1)) != api.OK {
		t.Error("the shelf is another one")
	}
	wantSaid(t, "the other one, then", other, m)
}
