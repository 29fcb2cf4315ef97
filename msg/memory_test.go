package msg_test

import (
	"bytes"
	"slices"
	"testing"

	"pleach/api"
	"pleach/msg"
)

// roomy tells a list like l with room behind it, full of other things, and the whole of it.
func roomy[T any](l []T, room ...T) ([]T, []T) {
	whole := append(slices.Clone(l), room...)
	return whole[:len(l)], whole
}

// handed is a message whose lists, and those within them, have room behind them; whole are all these with their room.
func handed(m api.Message) (given, whole api.Message) {
	given, whole = m, m
	given.Heads, whole.Heads = roomy(m.Heads, api.Hash{7}, api.Hash{6})
	given.Bloom, whole.Bloom = roomy(m.Bloom, 7, 6)
	given.Want, whole.Want = roomy(m.Want, api.Hash{7}, api.Hash{6})
	given.Blocks, whole.Blocks = roomy(m.Blocks, []byte{7}, []byte{6})
	whole.Blocks = slices.Clone(whole.Blocks)
	for i, row := range m.Blocks {
		given.Blocks[i], whole.Blocks[i] = roomy(row, 7, 6)
	}
	return given, whole
}

// fill writes over a list and the room behind it.
func fill[T any](l []T, x T) {
	room := l[:cap(l)]
	for i := range room {
		room[i] = x
	}
}

// fillMessage writes over all lists of a message, and the room behind them, the rows ahead of the list that has them.
func fillMessage(m api.Message) {
	for _, row := range m.Blocks {
		fill(row, 0xee)
	}
	fill(m.Heads, api.Hash{0xee})
	fill(m.Bloom, 0xee)
	fill(m.Want, api.Hash{0xee})
	fill(m.Blocks, []byte{0xee})
}

// fills tells, for each list of messages, what writes over it and the room behind it.
func fills(l []api.Message) []func() {
	out := []func(){}
	for _, m := range l {
		out = append(out,
			func() { fill(m.Heads, api.Hash{0xee}) }, func() { fill(m.Bloom, 0xee) }, func() { fill(m.Want, api.Hash{0xee}) })
		for _, row := range m.Blocks {
			out = append(out, func() { fill(row, 0xee) })
		}
		out = append(out, func() { fill(m.Blocks, []byte{0xee}) })
	}
	return append(out, func() { fill(l, api.Message{Kind: 0xee}) })
}

// differing tells at how many lists two answers are unlike; a list of lists counts by those.
func differing(a, b []api.Message) int {
	n := 0
	differ := func(same bool) {
		if !same {
			n++
		}
	}
	for i := range a {
		differ(slices.Equal(a[i].Heads, b[i].Heads))
		differ(bytes.Equal(a[i].Bloom, b[i].Bloom))
		differ(slices.Equal(a[i].Want, b[i].Want))
		for k := range a[i].Blocks {
			differ(bytes.Equal(a[i].Blocks[k], b[i].Blocks[k]))
		}
	}
	return n
}

// wantApart: no two lists of an answer share memory: writing over one, and the room behind it, changes no other one.
func wantApart(t *testing.T, ask func() []api.Message) {
	t.Helper()
	for i := range fills(ask()) {
		got, was := ask(), ask()
		view := make([]api.Message, len(got)) // sees the lists of got, though the list of them is written over
		for k, m := range got {
			view[k] = m
			view[k].Blocks = slices.Clone(m.Blocks)
		}
		lists := slices.Clone(got)
		fills(got)[i]()
		if n := differing(view, was); n > 1 {
			t.Fatalf("writing over list %d changed %d lists", i, n)
		}
		changed := 0
		for k, m := range lists {
			if !slices.EqualFunc(m.Blocks, was[k].Blocks, bytes.Equal) {
				changed++
			}
		}
		if changed > 1 {
			t.Fatalf("writing over list %d changed the blocks of %d messages", i, changed)
		}
	}
}

// P7.6: what is handed in stays as it was, the room behind its lists and within them too, whatever is asked.
func TestHandedIn(t *testing.T) {
	r := chance()
	list := ofEachKind()
	for range 500 {
		m := someMessage(r)
		if r.IntN(3) == 0 {
			spoil(&m, r.IntN)
		}
		list = append(list, m)
	}
	for _, m := range list {
		given, whole := handed(m)
		was := copyOf(whole)
		room := copyRows(given.Blocks[:cap(given.Blocks)])
		msg.Check(given)
		msg.Encode(given)
		msg.Blocks(given.Blocks)
		if !sameMessage(whole, was) || !sameMessage(given, m) || !slices.EqualFunc(given.Blocks[:cap(given.Blocks)], room, bytes.Equal) {
			t.Fatalf("%s: changed", show(m))
		}
		row := append(bytesOf(m), 1, 2, 3)
		wasRow := slices.Clone(row)
		for n := range 4 {
			msg.Decode(row[:len(row)-n])
		}
		if !bytes.Equal(row, wasRow) {
			t.Fatalf("%.60x: changed", wasRow)
		}
	}
}

// P7.6: what Encode answers is new memory, and nothing is kept of what was handed in.
func TestEncodeMemory(t *testing.T) {
	r := chance()
	for range 300 {
		m := someMessage(r)
		want := bytesOf(m)
		given, whole := handed(m)
		was := copyOf(whole)
		a, b := encoded(t, given), encoded(t, given)
		fill(a, 0xee)
		if !bytes.Equal(b, want) || !sameMessage(whole, was) {
			t.Fatalf("%s: an answer is shared", show(m))
		}
		fillMessage(given)
		if !bytes.Equal(b, want) {
			t.Fatalf("%s: the answer changes with what was handed in", show(m))
		}
	}
}

// P7.6: what Decode answers is new memory, each list of it.
func TestDecodeMemory(t *testing.T) {
	r := chance()
	list := ofEachKind()
	for range 100 {
		list = append(list, someMessage(r))
	}
	for _, m := range list {
		row := bytesOf(m)
		read := func() []api.Message {
			got, err := msg.Decode(row)
			if err != nil {
				t.Fatal(err)
			}
			return []api.Message{got}
		}
		a, b := read()[0], read()[0]
		fillMessage(a)
		if !sameMessage(b, m) || !bytes.Equal(row, bytesOf(m)) {
			t.Fatalf("%s: two answers share memory", show(m))
		}
		wantApart(t, read)
		fill(row, 0xee)
		if !sameMessage(b, m) {
			t.Fatalf("%s: the answer changes with what was handed in", show(m))
		}
	}
}

// P7.6: what Blocks answers is new memory, each list of it, also where rows that are handed in share memory with one another.
func TestBlocksMemory(t *testing.T) {
	one := []byte{1, 2, 3, 4, 5, 6, 7, 8, 9, 10}
	inOne := [][]byte{}
	for i := range 10 {
		inOne = append(inOne, one[i:i+1]) // each has the next ones as its room
	}
	same := []byte{1, 2}
	for _, l := range [][][]byte{
		rows(5, 3), inOne, slices.Repeat([][]byte{same}, 7), rows(258, 1), slices.Repeat([][]byte{same}, 258), rowsOf(1048576, 1, 1048576),
	} {
		given, whole := roomy(l, []byte{7}, []byte{6})
		want, wasWhole := copyRows(l), copyRows(whole)
		ask := func() []api.Message {
			got, e := msg.Blocks(given)
			if e != api.OK {
				t.Fatalf("error %d", e)
			}
			return got
		}
		rowsIn := func(l []api.Message) [][]byte {
			all := [][]byte{}
			for _, m := range l {
				all = append(all, m.Blocks...)
			}
			return all
		}
		a, b := ask(), ask()
		for _, m := range a {
			fillMessage(m)
		}
		fill(a, api.Message{})
		if !slices.EqualFunc(rowsIn(b), want, bytes.Equal) || !slices.EqualFunc(whole, wasWhole, bytes.Equal) {
			t.Fatalf("%d rows: an answer is shared", len(l))
		}
		if len(l[0]) < 1000 {
			wantApart(t, ask)
		}
		for _, row := range given {
			fill(row, 0xee)
		}
		fill(given, []byte{0xee})
		if !slices.EqualFunc(rowsIn(b), want, bytes.Equal) {
			t.Fatalf("%d rows: the answer changes with what was handed in", len(l))
		}
	}
}
