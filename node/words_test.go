package node_test

import (
	"bytes"
	"encoding/binary"
	"encoding/hex"
	"fmt"
	"math/rand/v2"
	"slices"
	"strings"

	"pleach/api"
	"pleach/op"
	"pleach/pack"
)

// What the chapter's words say of transactions, told in another way than the package does.

const zeroHash = "0000000000000000000000000000000000000000000000000000000000000000"

var h0, h1 = api.Hash{}, api.Hash{31: 1}

// behind tells whether b stands behind a.
func behind(a, b api.Hash) bool { return bytes.Compare(a[:], b[:]) < 0 }

// errorOf tells a transaction's error.
func errorOf(n api.Node) api.Errno {
	if n.Author <= 0 || n.Author >= 9 {
		return api.ErrAuthor
	}
	if n.Clock <= 0 || n.Clock >= 4097 {
		return api.ErrClock
	}
	if n.Clock == 1 && len(n.Parents) != 0 || n.Clock > 1 && len(n.Parents) == 0 {
		return api.ErrClock
	}
	if len(n.Parents) >= 65 {
		return api.ErrParents
	}
	for i, h := range n.Parents {
		if i+1 < len(n.Parents) && !behind(h, n.Parents[i+1]) {
			return api.ErrParents
		}
	}
	why, _ := op.Check(n.Ops)
	return why
}

// blockOf tells the block of a transaction, of one that may not be, too, but for its operations.
func blockOf(n api.Node) []byte {
	b := []byte{1, byte(n.Author)}
	b = binary.AppendUvarint(b, uint64(n.Clock))
	b = binary.AppendUvarint(b, uint64(len(n.Parents)))
	for _, h := range n.Parents {
		b = append(b, h[:]...)
	}
	return append(b, opsOf(n.Ops)...)
}

// opsOf tells the form of operations that may be.
func opsOf(l []api.Op) []byte {
	o := pack.NewOut()
	if e := op.Put(o, l); e != api.OK {
		panic(e)
	}
	return o.Done()
}

// numberOf tells the number that a row begins with, its bytes, and what is wrong with it.
func numberOf(row []byte, most uint64) (uint64, int, api.Errno) {
	x, n := binary.Uvarint(row)
	end := slices.IndexFunc(row, func(c byte) bool { return c < 128 })
	switch {
	case len(row) >= 10 && (end < 0 || end >= 9) && row[9] > 1: // the library asks for an eleventh byte
		return 0, 0, api.ErrOver
	case n == 0:
		return 0, 0, api.ErrShort
	case n < 0:
		return 0, 0, api.ErrOver
	case n > 1 && row[n-1] == 0:
		return 0, 0, api.ErrLong
	case x > most:
		return 0, 0, api.ErrOver
	}
	return x, n, api.OK
}

// decodeOf tells what Decode should answer: a transaction, or what is wrong.
func decodeOf(row []byte) (api.Node, *api.Bad) {
	bad := func(why api.Errno, at int) (api.Node, *api.Bad) { return api.Node{}, &api.Bad{Why: why, At: at} }
	switch {
	case len(row) > 1048576:
		return bad(api.ErrBytes, 1048576)
	case len(row) == 0:
		return bad(api.ErrShort, 0)
	case row[0] != 1:
		return bad(api.ErrForm, 0)
	case len(row) == 1:
		return bad(api.ErrShort, 1)
	case row[1] == 0 || row[1] > 8:
		return bad(api.ErrAuthor, 1)
	}
	clock, size, why := numberOf(row[2:], 4096)
	if why == api.OK && clock == 0 {
		why = api.ErrClock
	}
	if why != api.OK {
		return bad(why, 2)
	}
	at := 2 + size
	count, size, why := numberOf(row[at:], 64)
	if why != api.OK {
		return bad(why, at)
	}
	if clock == 1 && count > 0 || clock > 1 && count == 0 {
		return bad(api.ErrClock, 2)
	}
	at += size
	n := api.Node{Author: int(row[1]), Clock: int(clock)}
	for range count {
		if len(row) < at+32 {
			return bad(api.ErrShort, at)
		}
		h := api.Hash(row[at : at+32])
		if k := len(n.Parents); k > 0 && !behind(n.Parents[k-1], h) {
			return bad(api.ErrParents, at)
		}
		n.Parents = append(n.Parents, h)
		at += 32
	}
	return opsAt(n, row, at)
}

// opsAt goes on where the operations begin.
func opsAt(n api.Node, row []byte, at int) (api.Node, *api.Bad) {
	r := pack.NewIn(row[at:])
	l, err := op.Get(r)
	if err == nil {
		err = r.End()
	}
	if err != nil {
		bad := err.(*api.Bad)
		return api.Node{}, &api.Bad{Why: bad.Why, At: at + bad.At}
	}
	n.Ops = l
	return n, nil
}

// sameNode tells, without the package's help, whether two transactions are the same.
func sameNode(a, b api.Node) bool {
	return a.Author == b.Author && a.Clock == b.Clock && slices.Equal(a.Parents, b.Parents) && slices.Equal(a.Ops, b.Ops)
}

// copyOf tells a transaction that shares no lists with it.
func copyOf(n api.Node) api.Node {
	n.Parents, n.Ops = slices.Clone(n.Parents), slices.Clone(n.Ops)
	return n
}

// chance tells numbers that look random, and are the same at every run.
func chance() *rand.Rand { return rand.New(rand.NewPCG(1, 2)) }

// one tells one of a list.
func one[T any](r *rand.Rand, of ...T) T { return of[r.IntN(len(of))] }

// someParents tells n hashes that rise, some by their last byte alone.
func someParents(r *rand.Rand, n int) []api.Hash {
	l := []api.Hash{}
	for i := range n {
		h := api.Hash{}
		if r.IntN(2) == 0 {
			for k := range h {
				h[k] = byte(r.Uint32())
			}
		}
		h[31] = byte(i)
		l = append(l, h)
	}
	slices.SortFunc(l, func(a, b api.Hash) int { return bytes.Compare(a[:], b[:]) })
	return l
}

// someOps tells at most n operations that may be.
func someOps(r *rand.Rand, n int) []api.Op {
	l := []api.Op{}
	text := func() string { return one(r, "", "k", "l", "\x00\xff", strings.Repeat("ab", 70)) }
	for range n {
		x := api.Op{Kind: 1 + r.IntN(9), Key: text()}
		switch x.Kind {
		case api.OpPut, api.OpAdd, api.OpRemove:
			x.Text = text()
		case api.OpIncr:
			x.N = int64(r.Uint64()) >> r.IntN(64)
		case api.OpInsert, api.OpDelete:
			x.At = one(r, api.Ident{}, api.Ident{Op: r.IntN(n)}, api.Ident{Node: h1, Op: 1 + r.IntN(1024)})
		}
		if e, _ := op.Check(append(l, x)); e == api.OK {
			l = append(l, x)
		}
	}
	return l
}

// someNode tells a transaction that may be.
func someNode(r *rand.Rand) api.Node {
	n := api.Node{Author: 1 + r.IntN(8), Clock: 1, Ops: someOps(r, r.IntN(9))}
	if r.IntN(4) > 0 {
		n.Clock = one(r, 2, 3, 127, 128, 4095, 4096, 2+r.IntN(4095))
		n.Parents = someParents(r, one(r, 1, 2, 3, 5, 64))
	}
	return n
}

// parents tells n hashes that rise.
func parents(n int) []api.Hash {
	l := make([]api.Hash, n)
	for i := range l {
		l[i] = api.Hash{0: byte(i >> 8), 31: byte(i)}
	}
	return l
}

// put tells an OpPut whose Text has so many bytes.
func put(n int) api.Op { return api.Op{Kind: api.OpPut, Text: strings.Repeat("x", n)} }

// ofSize tells a transaction that may be, with so many parents, whose block has so many bytes, MaxNode or nearly.
func ofSize(size, count int) api.Node {
	n := api.Node{Author: 3, Clock: 1}
	if count > 0 {
		n.Clock, n.Parents = 2, parents(count)
	}
	for range 15 {
		n.Ops = append(n.Ops, put(65536))
	}
	last := size - len(blockOf(n)) - 5 // a Kind, no Key, three bytes of how long the Text is
	n.Ops = append(n.Ops, put(last))
	if len(blockOf(n)) != size {
		panic(size)
	}
	return n
}

// fromHex tells bytes of their digits, with spaces between.
func fromHex(text string) []byte {
	b, err := hex.DecodeString(strings.ReplaceAll(text, " ", ""))
	if err != nil {
		panic(err)
	}
	return b
}

// show tells a transaction for a message, as far as it has room.
func show(n api.Node) string {
	s := fmt.Sprintf("%d parents, %d operations, %#v", len(n.Parents), len(n.Ops), n)
	return s[:min(len(s), 300)]
}
