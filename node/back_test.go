package node_test

import (
	"bytes"
	"slices"
	"testing"

	"pleach/api"
	"pleach/node"
	"pleach/sha"
)

// encoded tells the block of a transaction that may be.
func encoded(t *testing.T, n api.Node) []byte {
	t.Helper()
	b, e := node.Encode(n)
	if e != api.OK {
		t.Fatalf("Encode of %s: error %d", show(n), e)
	}
	return b
}

// P5.5: what Encode answers Decode reads as the same transaction, and Size is its number of bytes.
func TestThereAndBack(t *testing.T) {
	r := chance()
	list := []api.Node{ofSize(1048576, 0), ofSize(1048576, 64), {Author: 1, Clock: 1}}
	for range 3000 {
		list = append(list, someNode(r))
	}
	for _, n := range list {
		b := encoded(t, n)
		back, err := node.Decode(b)
		if err != nil || !sameNode(back, n) || !node.Same(back, n) || node.Size(n) != len(b) || node.Size(back) != len(b) {
			t.Fatalf("%s: back as %s, %v; size %d of %d", show(n), show(back), err, node.Size(n), len(b))
		}
	}
}

// wantOneForm: if Decode takes a row, what it tells may be, and Encode of it is just that row.
func wantOneForm(t *testing.T, row []byte) bool {
	t.Helper()
	n, err := node.Decode(row)
	if err != nil {
		return false
	}
	if e := node.Check(n); e != api.OK {
		t.Fatalf("%.60x is read, and Check of it: error %d", row, e)
	}
	if b := encoded(t, n); !bytes.Equal(b, row) {
		t.Fatalf("%.60x: laid again %.60x", row, b)
	}
	return true
}

// P5.5: blocks with many bytes turned, and bytes put in and taken out.
func TestOneForm(t *testing.T) {
	r := chance()
	taken := 0
	for range 30000 {
		row := blockOf(someNode(r))
		for range r.IntN(4) {
			i := r.IntN(len(row))
			x := one(r, 0, 1, 2, 8, 9, 0x80, 0x81, byte(r.Uint32()))
			switch r.IntN(4) {
			case 0:
				row = slices.Insert(row, i, x)
			case 1:
				row = slices.Delete(row, i, i+1)
			default:
				row[i] = x
			}
			if len(row) == 0 {
				break
			}
		}
		if wantOneForm(t, row) {
			taken++
		}
	}
	if taken < 8000 {
		t.Errorf("only %d rows were taken", taken)
	}
}

// P5.5: transactions that aren't the same have blocks and hashes that aren't.
func TestBlocksApart(t *testing.T) {
	r := chance()
	by := map[api.Hash]api.Node{}
	for range 5000 {
		n := someNode(r)
		h := sha.Of(encoded(t, n))
		if was, ok := by[h]; ok && !sameNode(was, n) {
			t.Fatalf("one hash: %s and %s", show(was), show(n))
		}
		by[h] = n
	}
	for range 50 {
		n := someNode(r)
		b := encoded(t, n)
		for _, other := range turned(n) {
			if c, e := node.Encode(other); e == api.OK && bytes.Equal(b, c) {
				t.Fatalf("one block: %s and %s", show(n), show(other))
			}
		}
	}
}

// roomy tells a transaction like n whose lists have room behind them, full of other things, and the whole of those lists.
func roomy(n api.Node) (api.Node, []api.Hash, []api.Op) {
	p := append(slices.Clone(n.Parents), api.Hash{0: 7}, api.Hash{0: 8})
	l := append(slices.Clone(n.Ops), api.Op{Kind: 77, Text: "room"}, api.Op{Kind: 78})
	n.Parents, n.Ops = p[:len(n.Parents)], l[:len(n.Ops)]
	return n, p, l
}

// P5.7: what is handed in stays as it was, the room behind its lists too, whatever is asked.
func TestHandedIn(t *testing.T) {
	r := chance()
	for range 200 {
		n := someNode(r)
		if r.IntN(3) == 0 {
			spoil(&n, r.IntN)
		}
		given, p, l := roomy(n)
		wasP, wasL := slices.Clone(p), slices.Clone(l)
		node.Check(given)
		node.Size(given)
		node.Encode(given)
		node.Same(given, given)
		node.Vertex(api.Entry{Node: given})
		if !slices.Equal(p, wasP) || !slices.Equal(l, wasL) {
			t.Fatalf("%s: changed", show(n))
		}
		row := append(blockOf(someNode(r)), 1, 2, 3)
		was := slices.Clone(row)
		node.Decode(row[:len(row)-3])
		node.Entry(row[:len(row)-3])
		node.Decode(row[:len(row)-2])
		if !bytes.Equal(row, was) {
			t.Fatalf("%.60x: changed", was)
		}
	}
}

// fillRoom writes over a transaction's lists, and the room behind them.
func fillRoom(n api.Node) {
	p, l := n.Parents[:cap(n.Parents)], n.Ops[:cap(n.Ops)]
	for i := range p {
		p[i] = api.Hash{0: 99, 31: byte(i)}
	}
	for i := range l {
		l[i] = api.Op{Kind: 99, Key: "over"}
	}
}

// fillBytes writes over bytes, and the room behind them.
func fillBytes(b []byte) {
	b = b[:cap(b)]
	for i := range b {
		b[i] = 0xee
	}
}

// P5.7: what Encode answers is new memory.
func TestEncodeMemory(t *testing.T) {
	r := chance()
	for range 100 {
		n := someNode(r)
		was := copyOf(n)
		a, b := encoded(t, n), encoded(t, n)
		fillBytes(a)
		if !bytes.Equal(b, blockOf(was)) || !sameNode(n, was) {
			t.Fatalf("%s: an answer is shared", show(was))
		}
		fillRoom(n)
		if !bytes.Equal(b, blockOf(was)) {
			t.Fatalf("%s: the answer changes with what was handed in", show(was))
		}
	}
}

// P5.7: what Decode and Entry answer is new memory, within the transaction too.
func TestDecodeMemory(t *testing.T) {
	r := chance()
	for range 100 {
		want := someNode(r)
		row := blockOf(want)
		a, err := node.Decode(row)
		if err != nil {
			t.Fatal(err)
		}
		b, _ := node.Decode(row)
		e, _ := node.Entry(row)
		fillRoom(a)
		if !sameNode(b, want) || !sameNode(e.Node, want) || !bytes.Equal(row, blockOf(want)) {
			t.Fatalf("%s: two answers share memory", show(want))
		}
		fillRoom(e.Node)
		fillBytes(row)
		if !sameNode(b, want) {
			t.Fatalf("%s: the answer changes with what was handed in", show(want))
		}
	}
}

// P5.7: what Vertex answers is new memory.
func TestVertexMemory(t *testing.T) {
	r := chance()
	for range 100 {
		n := someNode(r)
		given, p, _ := roomy(n)
		was := slices.Clone(p)
		a, b := node.Vertex(api.Entry{Node: given}), node.Vertex(api.Entry{Node: given})
		fillRoom(api.Node{Parents: a.Parents})
		if !slices.Equal(p, was) || !slices.Equal(b.Parents, n.Parents) {
			t.Fatalf("%s: an answer is shared", show(n))
		}
		fillRoom(given)
		if !slices.Equal(b.Parents, was[:len(b.Parents)]) {
			t.Fatalf("%s: the answer changes with what was handed in", show(n))
		}
	}
}
