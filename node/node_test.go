package node_test

import (
	"bytes"
	"math"
	"slices"
	"strings"
	"testing"

	"pleach/api"
	"pleach/node"
	"pleach/sha"
)

// wantError: Check, Size and Encode of a transaction that may not be.
func wantError(t *testing.T, n api.Node, why api.Errno) {
	t.Helper()
	was := copyOf(n)
	if e := node.Check(n); e != why {
		t.Errorf("Check of %s: error %d, want %d", show(n), e, why)
	}
	if size := node.Size(n); size != 0 {
		t.Errorf("Size of %s: %d", show(n), size)
	}
	if b, e := node.Encode(n); e != why || len(b) != 0 {
		t.Errorf("Encode of %s: %d bytes, error %d, want %d", show(n), len(b), e, why)
	}
	if !sameNode(n, was) {
		t.Errorf("%s was changed", show(was))
	}
}

// wantBlock: Check, Size and Encode of a transaction that may be.
func wantBlock(t *testing.T, n api.Node, block []byte) {
	t.Helper()
	was := copyOf(n)
	if e := node.Check(n); e != api.OK {
		t.Errorf("Check of %s: error %d", show(n), e)
	}
	if size := node.Size(n); size != len(block) {
		t.Errorf("Size of %s: %d, want %d", show(n), size, len(block))
	}
	if b, e := node.Encode(n); e != api.OK || !bytes.Equal(b, block) {
		t.Errorf("Encode of %s: error %d, %.60x, want %.60x", show(n), e, b, block)
	}
	if !sameNode(n, was) {
		t.Errorf("%s was changed", show(was))
	}
}

// wantCheck: what is told of a transaction is what is wanted, of one that may be its block as the words have it.
func wantCheck(t *testing.T, n api.Node, why api.Errno) {
	t.Helper()
	if why != api.OK {
		wantError(t, n, why)
		return
	}
	wantBlock(t, n, blockOf(n))
}

// P5.1, P5.2: the chapter's examples.
func TestCheckExamples(t *testing.T) {
	wantError(t, api.Node{}, api.ErrAuthor)
	wantError(t, api.Node{Author: 1}, api.ErrClock)
	wantError(t, api.Node{Author: 9, Clock: 1}, api.ErrAuthor)
	wantError(t, api.Node{Author: 1, Clock: 1, Parents: []api.Hash{h0}}, api.ErrClock)
	wantError(t, api.Node{Author: 1, Clock: 2}, api.ErrClock)
	wantError(t, api.Node{Author: 1, Clock: 2, Parents: []api.Hash{h1, h0}}, api.ErrParents)
	wantError(t, api.Node{Author: 1, Clock: 2, Parents: []api.Hash{h0, h0}}, api.ErrParents)
	wantBlock(t, api.Node{Author: 1, Clock: 2, Parents: []api.Hash{h0, h1}}, fromHex("01 01 02 02"+zeroHash+zeroHash[:62]+"01 00"))
	wantBlock(t, api.Node{Author: 1, Clock: 1}, fromHex("01 01 01 00 00"))
	wantBlock(t, api.Node{Author: 1, Clock: 1, Parents: []api.Hash{}, Ops: []api.Op{}}, fromHex("01 01 01 00 00"))
	wantBlock(t, api.Node{Author: 2, Clock: 300, Parents: []api.Hash{h1}}, fromHex("01 02 ac 02 01"+zeroHash[:62]+"01 00"))
	put := api.Op{Kind: api.OpPut, Key: "k", Text: "v"}
	wantBlock(t, api.Node{Author: 1, Clock: 1, Ops: []api.Op{put}}, fromHex("01 01 01 00 01 01 01 6b 01 76")) // the document's example 4
}

// P5.1, P5.2: authors of all sorts, at a clock with parents and one without.
func TestAuthors(t *testing.T) {
	for _, author := range []int{0, 1, 2, 7, 8, 9, 10, -1, 255, 256, 257, 264, 1<<32 + 1, math.MaxInt, math.MinInt, math.MinInt + 1} {
		why := api.ErrAuthor
		if author >= 1 && author <= 8 {
			why = api.OK
		}
		wantCheck(t, api.Node{Author: author, Clock: 1}, why)
		wantCheck(t, api.Node{Author: author, Clock: 4096, Parents: parents(64)}, why)
	}
}

// P5.1, P5.2: clocks of all sorts, without parents, with one and with many.
func TestClocks(t *testing.T) {
	for _, clock := range []int{0, 1, 2, 3, 127, 128, 300, 4095, 4096, 4097, 5000, -1, -2, 257, 1<<32 + 1, 1<<32 + 2, math.MaxInt, math.MinInt} {
		for _, count := range []int{0, 1, 2, 64} {
			why := api.ErrClock
			if clock == 1 && count == 0 || clock >= 2 && clock <= 4096 && count > 0 {
				why = api.OK
			}
			wantCheck(t, api.Node{Author: 1, Clock: clock, Parents: parents(count)}, why)
		}
	}
}

// P5.1, P5.2: how many parents there are, and each pair of neighbours equal, and the wrong way round.
func TestParents(t *testing.T) {
	for _, count := range []int{1, 2, 3, 63, 64} {
		wantCheck(t, api.Node{Author: 1, Clock: 2, Parents: parents(count)}, api.OK)
		for i := 1; i < count; i++ {
			equal := parents(count)
			equal[i] = equal[i-1]
			wantCheck(t, api.Node{Author: 1, Clock: 2, Parents: equal}, api.ErrParents)
			falling := parents(count)
			falling[i], falling[i-1] = falling[i-1], falling[i]
			wantCheck(t, api.Node{Author: 1, Clock: 2, Parents: falling}, api.ErrParents)
		}
	}
	for _, count := range []int{65, 66, 128, 300} {
		wantCheck(t, api.Node{Author: 1, Clock: 2, Parents: parents(count)}, api.ErrParents)
	}
}

// P5.1: parents that rise, or fall, by any one of their bytes, whatever stands behind it.
func TestParentsEveryByte(t *testing.T) {
	for i := range 32 {
		low, high := api.Hash{}, api.Hash{}
		low[i], high[i] = 127, 128
		for k := i + 1; k < 32; k++ {
			low[k] = 255
		}
		wantCheck(t, api.Node{Author: 1, Clock: 2, Parents: []api.Hash{low, high}}, api.OK)
		wantCheck(t, api.Node{Author: 1, Clock: 2, Parents: []api.Hash{high, low}}, api.ErrParents)
	}
}

// P5.1, P5.2: operations that may not be are told by op's errors; none, one, MaxOps of them may be.
func TestOperations(t *testing.T) {
	many := slices.Repeat([]api.Op{{Kind: api.OpZero, Key: "k"}}, 1025)
	for _, c := range []struct {
		why api.Errno
		l   []api.Op
	}{
		{api.OK, many[:0]}, {api.OK, many[:1]}, {api.OK, many[:1024]}, {api.ErrMany, many},
		{api.ErrKind, []api.Op{{}}},
		{api.ErrKind, []api.Op{put(1), {Kind: 10}}},
		{api.ErrBytes, []api.Op{put(65537)}},
		{api.ErrBytes, []api.Op{{Kind: api.OpPut, Key: strings.Repeat("k", 65537)}}},
		{api.OK, []api.Op{{Kind: api.OpPut, Key: strings.Repeat("k", 65536), Text: strings.Repeat("v", 65536)}}},
		{api.ErrField, []api.Op{{Kind: api.OpClear, Text: "v"}}},
		{api.ErrAt, []api.Op{{Kind: api.OpDelete}}},
		{api.ErrAt, []api.Op{{Kind: api.OpInsert, At: api.Ident{Op: 1}}}},
		{api.OK, []api.Op{{Kind: api.OpInsert}, {Kind: api.OpDelete, At: api.Ident{Op: 1}}}},
	} {
		wantCheck(t, api.Node{Author: 1, Clock: 1, Ops: c.l}, c.why)
		wantCheck(t, api.Node{Author: 8, Clock: 300, Parents: parents(3), Ops: c.l}, c.why)
	}
}

// P5.1, P5.2: of several errors the first one is told.
func TestFirstError(t *testing.T) {
	badOps := [][]api.Op{nil, {{}}, {put(65537)}, {{Kind: api.OpDelete}}, make([]api.Op, 1025)}
	opErrors := []api.Errno{api.OK, api.ErrKind, api.ErrBytes, api.ErrAt, api.ErrMany}
	for i, ops := range badOps {
		for _, p := range [][]api.Hash{nil, {h0}, {h1, h0}, parents(65), {h1, h1, h0}} {
			for _, clock := range []int{-1, 0, 1, 2, 4097} {
				for _, author := range []int{-1, 0, 1, 9} {
					n := api.Node{Author: author, Clock: clock, Parents: p, Ops: ops}
					why := opErrors[i]
					if len(p) > 1 {
						why = api.ErrParents
					}
					if !(clock == 1 && p == nil || clock == 2 && p != nil) {
						why = api.ErrClock
					}
					if author != 1 {
						why = api.ErrAuthor
					}
					wantCheck(t, n, why)
				}
			}
		}
	}
}

// P5.1, P5.2: a block of MaxNode bytes just, of one less and one more, and of far more; Size tells all.
func TestLongBlocks(t *testing.T) {
	for _, count := range []int{0, 1, 64} {
		wantBlock(t, ofSize(1048575, count), blockOf(ofSize(1048575, count)))
		wantBlock(t, ofSize(1048576, count), blockOf(ofSize(1048576, count)))
		wantTooLong(t, ofSize(1048577, count), 1048577)
		wantTooLong(t, ofSize(1048580, count), 1048580)
	}
	far := api.Node{Author: 1, Clock: 1, Ops: slices.Repeat([]api.Op{put(65536)}, 100)}
	wantTooLong(t, far, 5+100*65541)
	keys := api.Node{Author: 1, Clock: 1, Ops: slices.Repeat([]api.Op{{Kind: api.OpAdd, Key: strings.Repeat("k", 65536)}}, 20)}
	wantTooLong(t, keys, 5+20*65541)
	far.Ops = append(slices.Clone(far.Ops), api.Op{})
	wantError(t, far, api.ErrKind) // and not ErrBytes
}

// wantTooLong: a transaction may be, and has no block that is told.
func wantTooLong(t *testing.T, n api.Node, size int) {
	t.Helper()
	if e := node.Check(n); e != api.OK {
		t.Errorf("Check: error %d", e)
	}
	if got := node.Size(n); got != size {
		t.Errorf("Size: %d, want %d", got, size)
	}
	if b, e := node.Encode(n); e != api.ErrBytes || len(b) != 0 {
		t.Errorf("Encode of %d bytes: %d bytes, error %d", size, len(b), e)
	}
}

// P5.1, P5.2: the greatest transaction that can be has a size, too, which is told.
func TestGreatest(t *testing.T) {
	k := strings.Repeat("k", 65536)
	n := api.Node{Author: 8, Clock: 4096, Parents: parents(64)}
	n.Ops = slices.Repeat([]api.Op{{Kind: api.OpInsert, Key: k, Text: k, At: api.Ident{Node: h1, Op: 1024}}}, 1024)
	wantTooLong(t, n, 1+1+2+1+64*32+2+1024*(1+2*(3+65536)+2+32))
}

// P5.1, P5.2: many transactions, most with something turned in them, against the chapter's words.
func TestCheckWords(t *testing.T) {
	r := chance()
	told := map[api.Errno]int{}
	for range 20000 {
		n := someNode(r)
		for range r.IntN(3) {
			spoil(&n, r.IntN)
		}
		why := errorOf(n)
		told[why]++
		wantCheck(t, n, why)
	}
	for _, why := range []api.Errno{api.OK, api.ErrAuthor, api.ErrClock, api.ErrParents, api.ErrKind} {
		if told[why] < 300 {
			t.Errorf("error %d: only %d times", why, told[why])
		}
	}
}

// spoil turns something in a transaction.
func spoil(n *api.Node, chance func(int) int) {
	switch k := len(n.Parents); chance(6) {
	case 0:
		n.Author += chance(9) - 4
	case 1:
		n.Clock += chance(5) - 2
	case 2:
		n.Parents = n.Parents[:k/2]
	case 3:
		if k > 0 {
			n.Parents = append(n.Parents, n.Parents[k-1])
		}
	case 4:
		if k > 1 {
			i := 1 + chance(k-1)
			n.Parents[i], n.Parents[i-1] = n.Parents[i-1], n.Parents[i]
		}
	case 5:
		n.Ops = append(n.Ops, api.Op{Kind: chance(11)})
	}
}

// P5.4: of any entry Vertex tells the hash, the clock and the parents, as they are.
func TestVertex(t *testing.T) {
	r := chance()
	entries := []api.Entry{
		{}, {ID: h1}, {Node: api.Node{Clock: -7}}, {ID: h1, Node: api.Node{Clock: math.MaxInt, Parents: []api.Hash{h1, h0, h1}}},
		{Node: api.Node{Author: 99, Clock: 4097, Parents: parents(300), Ops: []api.Op{{}}}},
	}
	for range 100 {
		entries = append(entries, api.Entry{ID: someParents(r, 1)[0], Node: someNode(r)})
	}
	for _, e := range entries {
		v := node.Vertex(e)
		if v.ID != e.ID || v.Clock != e.Node.Clock || !slices.Equal(v.Parents, e.Node.Parents) {
			t.Errorf("Vertex of %s: clock %d, %d parents", show(e.Node), v.Clock, len(v.Parents))
		}
	}
}

// turned tells transactions each of which is another one than a, by one thing alone.
func turned(a api.Node) []api.Node {
	l := []api.Node{}
	add := func(turn func(n *api.Node)) {
		n := copyOf(a)
		turn(&n)
		l = append(l, n)
	}
	add(func(n *api.Node) { n.Author++ })
	add(func(n *api.Node) { n.Author += 256 })
	add(func(n *api.Node) { n.Clock-- })
	add(func(n *api.Node) { n.Clock ^= math.MinInt })
	add(func(n *api.Node) { n.Parents = append(n.Parents, api.Hash{}) })
	add(func(n *api.Node) { n.Ops = append(n.Ops, api.Op{}) })
	for i := range a.Parents {
		add(func(n *api.Node) { n.Parents[i][i%32] ^= 128 })
		add(func(n *api.Node) { n.Parents = slices.Delete(n.Parents, i, i+1) })
		if i > 0 {
			add(func(n *api.Node) { n.Parents[i], n.Parents[i-1] = n.Parents[i-1], n.Parents[i] })
		}
	}
	for i := range a.Ops {
		add(func(n *api.Node) { n.Ops[i].Kind++ })
		add(func(n *api.Node) { n.Ops[i].Key += "\x00" })
		add(func(n *api.Node) { n.Ops[i].Text += "\x00" })
		add(func(n *api.Node) { n.Ops[i].N++ })
		add(func(n *api.Node) { n.Ops[i].At.Op-- })
		add(func(n *api.Node) { n.Ops[i].At.Node[i%32] ^= 1 })
		add(func(n *api.Node) { n.Ops = slices.Delete(n.Ops, i, i+1) })
		if i > 0 && a.Ops[i] != a.Ops[i-1] {
			add(func(n *api.Node) { n.Ops[i], n.Ops[i-1] = n.Ops[i-1], n.Ops[i] })
		}
	}
	return l
}

// P5.4: Same looks at all of two transactions, of such that may not be, too; whether a list without elements is nil doesn't count.
func TestSame(t *testing.T) {
	r := chance()
	list := []api.Node{{}, {Author: -1, Clock: math.MinInt, Parents: []api.Hash{h1, h0}, Ops: []api.Op{{Kind: 99, Text: "v"}, {Kind: 98}}}}
	for range 100 {
		list = append(list, someNode(r))
	}
	for _, a := range list {
		if !node.Same(a, a) || !node.Same(a, copyOf(a)) {
			t.Fatalf("%s isn't the same as itself", show(a))
		}
		for _, b := range turned(a) {
			if node.Same(a, b) || node.Same(b, a) || !node.Same(b, copyOf(b)) {
				t.Fatalf("Same of %s and %s", show(a), show(b))
			}
		}
	}
	bare := api.Node{Author: 1, Clock: 1}
	empty := api.Node{Author: 1, Clock: 1, Parents: []api.Hash{}, Ops: []api.Op{}}
	if !node.Same(bare, empty) || !node.Same(empty, bare) {
		t.Error("nil lists and empty ones")
	}
}

// P5.4: the hash of an entry is that of its block.
func TestEntry(t *testing.T) {
	r := chance()
	for range 300 {
		n := someNode(r)
		b := blockOf(n)
		e, err := node.Entry(b)
		if err != nil || e.ID != sha.Of(b) || !sameNode(e.Node, n) {
			t.Fatalf("Entry of the block of %s: %x, %s, %v", show(n), e.ID, show(e.Node), err)
		}
	}
	b := blockOf(ofSize(1048576, 2))
	if e, err := node.Entry(b); err != nil || e.ID != sha.Of(b) || !sameNode(e.Node, ofSize(1048576, 2)) {
		t.Errorf("Entry of MaxNode bytes: %v", err)
	}
	e, err := node.Entry(fromHex("01 01 01 00 01 01 01 6b 01 76"))
	if err != nil || sha.Print(e.ID) != "d83545142d7114834ec13562b5aa48059d4d37e3fb09836cfa561a6f7e1b4bc2" {
		t.Errorf("the document's example 4: %s, %v", sha.Print(e.ID), err)
	}
}
