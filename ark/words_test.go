package ark_test

import (
	"bytes"
	"crypto/sha256"
	"encoding/binary"
	"fmt"
	"math/rand/v2"
	"slices"
	"strings"

	"pleach/api"
	"pleach/node"
	"pleach/shelf"
)

// What the chapter's words say of arks, told in another way than the package does: blocks are texts, each is held against each, as the words have it, and the one order is laid anew each time.

// hashOf tells a block's hash.
func hashOf(b string) api.Hash { return sha256.Sum256([]byte(b)) }

// hashesOf tells the hashes of blocks.
func hashesOf(l []string) []api.Hash {
	out := []api.Hash{}
	for _, b := range l {
		out = append(out, hashOf(b))
	}
	return out
}

// less tells whether a hash stands ahead of another one.
func less(a, b api.Hash) bool { return bytes.Compare(a[:], b[:]) < 0 }

// rising tells hashes rising, each once.
func rising(l []api.Hash) []api.Hash {
	out := slices.Clone(l)
	slices.SortFunc(out, func(a, b api.Hash) int { return bytes.Compare(a[:], b[:]) })
	return slices.Compact(out)
}

// nodeOf tells the transaction of a block.
func nodeOf(b string) api.Node {
	n, err := node.Decode([]byte(b))
	if err != nil {
		panic(err)
	}
	return n
}

// blockOf tells the block of a transaction.
func blockOf(n api.Node) string {
	b, e := node.Encode(n)
	if e != api.OK {
		panic(e)
	}
	return string(b)
}

// made tells the block of a transaction of a clock, with a mark of its own and these blocks as parents.
func made(mark string, clock int, parents ...string) string {
	return blockOf(api.Node{Author: 1, Clock: clock, Parents: rising(hashesOf(parents)), Ops: []api.Op{{Kind: api.OpPut, Key: "k", Text: mark}}})
}

// below and above tell the block of a transaction like made, whose hash stands ahead of another block's, and behind it.
func below(b string, clock int, parents ...string) string {
	return such(func(x string) bool { return less(hashOf(x), hashOf(b)) }, clock, parents...)
}

func above(b string, clock int, parents ...string) string {
	return such(func(x string) bool { return less(hashOf(b), hashOf(x)) }, clock, parents...)
}

// such tells a block like made of which something is true.
func such(is func(string) bool, clock int, parents ...string) string {
	for i := 0; ; i++ {
		if b := made(fmt.Sprint("such", i), clock, parents...); is(b) {
			return b
		}
	}
}

// arkOf lays an ark of blocks, whatever they are, in whatever order, with a right sum.
func arkOf(l ...string) string { return summed("PLEACHA1", uint64(len(l)), l...) }

// summed lays what begins with a mark, tells a number of blocks and has these, with a right sum.
func summed(mark string, count uint64, l ...string) string {
	b := binary.AppendUvarint([]byte(mark), count)
	for _, x := range l {
		b = append(binary.AppendUvarint(b, uint64(len(x))), x...)
	}
	return sealed(string(b))
}

// sealed sets a right sum behind bytes.
func sealed(b string) string {
	h := sha256.Sum256([]byte(b))
	return b + string(h[:])
}

// begins tells the first byte of each block in their ark.
func begins(l ...string) []int {
	at := 8 + len(binary.AppendUvarint(nil, uint64(len(l))))
	out := []int{}
	for _, x := range l {
		at += len(binary.AppendUvarint(nil, uint64(len(x))))
		out = append(out, at)
		at += len(x)
	}
	return out
}

// wrong is why something is wrong, and where.
func wrong(why api.Errno, at int) *api.Bad { return &api.Bad{Why: why, At: at} }

// numberOf tells the number that a row begins with, its bytes, and what is wrong with it.
func numberOf(row string, most uint64) (uint64, int, api.Errno) {
	end := slices.IndexFunc([]byte(row[:min(len(row), 10)]), func(c byte) bool { return c < 128 })
	x, n := binary.Uvarint([]byte(row))
	switch {
	case len(row) >= 10 && (end < 0 || end >= 9) && row[9] > 1: // the library asks for an eleventh byte
		return 0, 0, api.ErrOver
	case n == 0:
		return 0, 0, api.ErrShort
	case n < 0:
		return 0, 0, api.ErrOver
	case n > 1 && row[n-1] == 0:
		return 0, 0, api.ErrLong
	case x > most:
		return 0, 0, api.ErrOver
	}
	return x, n, api.OK
}

// unpackOf tells what Unpack should answer: blocks, or what is wrong.
func unpackOf(row string) ([]string, *api.Bad) {
	if len(row) < 8 {
		return nil, wrong(api.ErrShort, 0)
	}
	if row[:8] != "PLEACHA1" {
		return nil, wrong(api.ErrForm, 0)
	}
	count, at, why := numberOf(row[8:], 4096)
	if why != api.OK {
		return nil, wrong(why, 8)
	}
	at += 8
	blocks, starts := []string{}, []int{}
	for range count {
		size, n, why := numberOf(row[at:], 1048576)
		if why != api.OK {
			return nil, wrong(why, at)
		}
		at += n
		if uint64(len(row)-at) < size {
			return nil, wrong(api.ErrShort, at)
		}
		b := row[at : at+int(size)]
		if _, err := node.Decode([]byte(b)); err != nil {
			bad := err.(*api.Bad)
			return nil, wrong(bad.Why, at+bad.At)
		}
		blocks, starts = append(blocks, b), append(starts, at)
		at += len(b)
	}
	switch {
	case len(row)-at < 32:
		return nil, wrong(api.ErrShort, at)
	case sealed(row[:at]) != row[:at+32]:
		return nil, wrong(api.ErrSum, at)
	case len(row) > at+32:
		return nil, wrong(api.ErrRest, at+32)
	}
	for i := range blocks {
		if why := standsWrong(blocks, i); why != api.OK {
			return nil, wrong(why, starts[i])
		}
	}
	return blocks, nil
}

// standsWrong tells what is wrong with the place, or the clock, of a block among others.
func standsWrong(l []string, i int) api.Errno {
	ahead := map[api.Hash]string{}
	for _, b := range l[:i] {
		ahead[hashOf(b)] = b
	}
	is := func(h api.Hash) bool { _, is := ahead[h]; return is }
	allAhead := func(b string) bool {
		return !slices.ContainsFunc(nodeOf(b).Parents, func(h api.Hash) bool { return !is(h) })
	}
	if is(hashOf(l[i])) || !allAhead(l[i]) {
		return api.ErrOrder
	}
	for _, b := range l[i+1:] {
		if h := hashOf(b); less(h, hashOf(l[i])) && !is(h) && allAhead(b) {
			return api.ErrOrder
		}
	}
	n, clocks := nodeOf(l[i]), []int{}
	for _, h := range n.Parents {
		clocks = append(clocks, nodeOf(ahead[h]).Clock)
	}
	if len(clocks) > 0 && n.Clock != slices.Max(clocks)+1 {
		return api.ErrClock
	}
	return api.OK
}

// sorted tells blocks, each once, in the one order: again and again, of all that aren't placed and whose parents are, the one of the least hash.
func sorted(l ...string) []string {
	placed := []string{}
	isPlaced := func(h api.Hash) bool { return slices.Contains(hashesOf(placed), h) }
	for {
		ready := []string{}
		for _, b := range l {
			if !isPlaced(hashOf(b)) && !slices.ContainsFunc(nodeOf(b).Parents, func(h api.Hash) bool { return !isPlaced(h) }) {
				ready = append(ready, b)
			}
		}
		if len(ready) == 0 {
			return placed
		}
		placed = append(placed, slices.MinFunc(ready, func(a, b string) int {
			x, y := hashOf(a), hashOf(b)
			return bytes.Compare(x[:], y[:])
		}))
	}
}

// with tells a shelf without a keeper that was handed these blocks.
func with(l ...string) *shelf.Shelf {
	s := shelf.New(nil)
	for _, b := range l {
		s.Take([]byte(b))
	}
	return s
}

// look tells all that a shelf tells, but for what Take answers.
func look(s *shelf.Shelf) string {
	t := &strings.Builder{}
	fmt.Fprintf(t, "%d held %x, heads %x, waiting %x, missing %x", s.Len(), s.Order(), s.Heads(), s.Waiting(), s.Missing())
	for _, h := range s.Order() {
		b, e := s.Block(h)
		fmt.Fprintf(t, "; %x %d", b, e)
	}
	return t.String()
}

// chance makes numbers that are the same at each run.
func chance() *rand.Rand { return rand.New(rand.NewPCG(13, 7)) }

func one[T any](r *rand.Rand, l ...T) T { return l[r.IntN(len(l))] }

// mixed tells a list in another order.
func mixed[T any](r *rand.Rand, l []T) []T {
	l = slices.Clone(l)
	r.Shuffle(len(l), func(i, j int) { l[i], l[j] = l[j], l[i] })
	return l
}

// graph tells so many blocks whose clocks fit, parents ahead.
func graph(r *rand.Rand, n int) []string {
	l := []string{}
	for i := range n {
		x := api.Node{Author: 1 + r.IntN(api.MaxReplicas), Clock: 1, Ops: []api.Op{{Kind: api.OpAdd, Key: "k", Text: fmt.Sprint(r.Uint32(), i)}}}
		for range one(r, 0, 1, 1, 2, 3) {
			if i > 0 {
				p := l[max(0, i-1-r.IntN(one(r, 3, 20)))]
				x.Parents = rising(append(x.Parents, hashOf(p)))
				x.Clock = max(x.Clock, nodeOf(p).Clock+1)
			}
		}
		l = append(l, blockOf(x))
	}
	return l
}

// show tells hashes for a failure's message, by their first bytes.
func show(l []api.Hash) string {
	s := []string{}
	for i, h := range l {
		if i == 20 {
			s = append(s, fmt.Sprintf("..(%d hashes)", len(l)))
			break
		}
		s = append(s, fmt.Sprintf("%x", h[:3]))
	}
	return "[" + strings.Join(s, " ") + "]"
}

// showTaken tells what came of a Load for a failure's message.
func showTaken(t api.Taken, err error) string {
	return fmt.Sprintf("(%d, IDs %s, Lost %s, %v)", t.How, show(t.IDs), show(t.Lost), err)
}

// sameTaken tells whether the same came of two.
func sameTaken(a, b api.Taken) bool {
	return a.How == b.How && slices.Equal(a.IDs, b.IDs) && slices.Equal(a.Lost, b.Lost)
}

// texts tells rows of bytes as texts.
func texts(l [][]byte) []string {
	out := []string{}
	for _, b := range l {
		out = append(out, string(b))
	}
	return out
}
