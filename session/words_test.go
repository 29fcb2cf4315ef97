package session_test

import (
	"bytes"
	"crypto/sha256"
	"encoding/binary"
	"fmt"
	"math/rand/v2"
	"slices"
	"strings"

	"pleach/api"
	"pleach/msg"
	"pleach/node"
	"pleach/shelf"
)

// What the chapter's words say of what is said, told in another way than the package does: a shelf's blocks stand as texts in two lists, each is looked for by going through all, the one order is laid anew each time, places in digests are counted here, and messages are filled by trying one block more.

// hashOf tells a block's hash.
func hashOf(b string) api.Hash { return sha256.Sum256([]byte(b)) }

// hashesOf tells the hashes of blocks.
func hashesOf(l []string) []api.Hash {
	out := []api.Hash{}
	for _, b := range l {
		out = append(out, hashOf(b))
	}
	return out
}

// named tells the hashes of blocks, rising, each once.
func named(l ...string) []api.Hash { return rising(hashesOf(l)) }

// rising tells hashes rising, each once.
func rising(l []api.Hash) []api.Hash {
	out := slices.Clone(l)
	slices.SortFunc(out, func(a, b api.Hash) int { return bytes.Compare(a[:], b[:]) })
	return slices.Compact(out)
}

// nodeOf tells the transaction of a block.
func nodeOf(b string) api.Node {
	n, err := node.Decode([]byte(b))
	if err != nil {
		panic(err)
	}
	return n
}

// blockOf tells the block of a transaction.
func blockOf(n api.Node) string {
	b, e := node.Encode(n)
	if e != api.OK {
		panic(e)
	}
	return string(b)
}

// made tells the block of a transaction of a clock, with a mark of its own and these blocks as parents.
func made(mark string, clock int, parents ...string) string {
	return blockOf(api.Node{Author: 1, Clock: clock, Parents: named(parents...), Ops: []api.Op{{Kind: api.OpPut, Key: "k", Text: mark}}})
}

// find tells the block of a hash in a list.
func find(l []string, h api.Hash) (string, bool) {
	for _, b := range l {
		if hashOf(b) == h {
			return b, true
		}
	}
	return "", false
}

// allIn tells whether all of some hashes are those of blocks of a list.
func allIn(l []string, hashes []api.Hash) bool {
	return !slices.ContainsFunc(hashes, func(h api.Hash) bool { _, is := find(l, h); return !is })
}

// fits tells whether the clock of a block is that which its parents, all in a list, ask for.
func fits(l []string, b string) bool {
	n, clock := nodeOf(b), 1
	for _, h := range n.Parents {
		p, _ := find(l, h)
		clock = max(clock, nodeOf(p).Clock+1)
	}
	return n.Clock == clock
}

// sorted tells blocks in the one order: again and again, of all that aren't placed and whose parents are, the one of the least hash.
func sorted(l ...string) []string {
	placed := []string{}
	for {
		ready := []api.Hash{}
		for _, b := range l {
			if !slices.Contains(placed, b) && allIn(placed, nodeOf(b).Parents) {
				ready = append(ready, hashOf(b))
			}
		}
		if len(ready) == 0 {
			return placed
		}
		b, _ := find(l, rising(ready)[0])
		placed = append(placed, b)
	}
}

// model is a shelf, and what it says.
type model struct {
	held, wait []string // as they were taken; the oldest first
	keep       func(b string) api.Errno
	dead       bool
}

// refuses tells why a block, all of whose parents are held, isn't held.
func (m *model) refuses(b string) api.Errno {
	if !fits(m.held, b) {
		return api.ErrClock
	}
	if len(m.held) == 4096 {
		return api.ErrMany
	}
	e := m.keep(b)
	m.dead = e == api.ErrPower
	return e
}

// take tells what comes of a block: those that are held now, those that are lost, and whether the power is gone.
func (m *model) take(b string) (ids, lost []string, dead bool) {
	if _, err := node.Entry([]byte(b)); m.dead || err != nil || slices.Contains(m.held, b) || slices.Contains(m.wait, b) {
		return nil, nil, m.dead
	}
	if !allIn(m.held, nodeOf(b).Parents) {
		m.wait = append(m.wait, b)
		if len(m.wait) == 65 {
			lost = m.wait[:1]
			m.wait = slices.Clone(m.wait[1:])
		}
		return nil, lost, false
	}
	if m.refuses(b) != api.OK {
		return nil, nil, m.dead
	}
	m.held = append(m.held, b)
	ids = []string{b}
	for {
		i := slices.IndexFunc(m.wait, func(x string) bool { return allIn(m.held, nodeOf(x).Parents) })
		if i < 0 {
			return ids, lost, false
		}
		x := m.wait[i]
		e := m.refuses(x)
		switch {
		case m.dead:
			return nil, nil, true
		case e == api.OK:
			m.held, ids = append(m.held, x), append(ids, x)
		default:
			lost = append(lost, x)
		}
		m.wait = slices.Concat(m.wait[:i], m.wait[i+1:])
	}
}

// missing tells the parents of waiting ones that neither are held nor wait.
func (m *model) missing() []api.Hash {
	l := []api.Hash{}
	for _, b := range m.wait {
		for _, h := range nodeOf(b).Parents {
			if !allIn(slices.Concat(m.held, m.wait), []api.Hash{h}) {
				l = append(l, h)
			}
		}
	}
	return rising(l)
}

// heads tells those that no held one names.
func (m *model) heads() []api.Hash {
	l := []api.Hash{}
	for _, b := range m.held {
		if !slices.ContainsFunc(m.held, func(x string) bool { return slices.Contains(nodeOf(x).Parents, hashOf(b)) }) {
			l = append(l, hashOf(b))
		}
	}
	return rising(l)
}

// hello tells what Hello should answer.
func (m *model) hello(salt uint64) api.Message {
	return api.Message{Kind: 1, Heads: m.heads(), Salt: salt, Bloom: digestOf(salt, m.held...), Want: m.missing()}
}

// answer tells what Answer should answer.
func (m *model) answer(x api.Message) ([]api.Message, api.Taken, api.Errno) {
	if e := msg.Check(x); e != api.OK {
		return nil, api.Taken{}, e
	}
	if x.Kind == 3 {
		taken := api.Taken{}
		for _, b := range x.Blocks {
			ids, lost, dead := m.take(string(b))
			if dead {
				return nil, api.Taken{}, api.ErrPower
			}
			taken.IDs, taken.Lost = slices.Concat(taken.IDs, hashesOf(ids)), slices.Concat(taken.Lost, hashesOf(lost))
		}
		return nil, taken, api.OK
	}
	l, want := []string{}, []api.Hash{}
	for _, b := range sorted(m.held...) {
		if slices.Contains(x.Want, hashOf(b)) || x.Kind == 1 && !digestHas(x, b) {
			l = append(l, b)
		}
	}
	for _, h := range x.Heads {
		if !allIn(slices.Concat(m.held, m.wait), []api.Hash{h}) {
			want = append(want, h)
		}
	}
	out := filled(l...)
	if len(want) > 0 {
		out = append(out, api.Message{Kind: 2, Want: want})
	}
	return out, api.Taken{}, api.OK
}

// placesOf tells the four bits that stand for a hash in a digest of so many bytes.
func placesOf(salt uint64, h api.Hash, size int) []uint64 {
	sum := sha256.Sum256(append(binary.LittleEndian.AppendUint64(nil, salt), h[:]...))
	l := []uint64{}
	for i := 0; i < 32; i += 8 {
		l = append(l, binary.LittleEndian.Uint64(sum[i:])%uint64(8*size))
	}
	return l
}

// digestOf tells the digest of blocks.
func digestOf(salt uint64, l ...string) []byte {
	size := 8
	for size < 8192 && 8*size < 10*len(l) {
		size *= 2
	}
	out := make([]byte, size)
	for _, b := range l {
		for _, p := range placesOf(salt, hashOf(b), size) {
			out[p/8] |= 1 << (p % 8)
		}
	}
	return out
}

// digestHas tells whether the digest of a hello has a block.
func digestHas(m api.Message, b string) bool {
	return !slices.ContainsFunc(placesOf(m.Salt, hashOf(b), len(m.Bloom)), func(p uint64) bool { return m.Bloom[p/8]>>(p%8)&1 == 0 })
}

// filled tells messages of blocks: each has as many as it may have.
func filled(l ...string) []api.Message {
	out := []api.Message{}
	for _, b := range l {
		if n := len(out); n > 0 {
			more := append(slices.Clone(out[n-1].Blocks), []byte(b))
			if msg.Check(api.Message{Kind: 3, Blocks: more}) == api.OK {
				out[n-1].Blocks = more
				continue
			}
		}
		out = append(out, api.Message{Kind: 3, Blocks: rows(b)})
	}
	return out
}

// rows tells blocks as rows of bytes.
func rows(l ...string) [][]byte {
	out := [][]byte{}
	for _, b := range l {
		out = append(out, []byte(b))
	}
	return out
}

// blocksIn tells all blocks of messages, one behind the other.
func blocksIn(l []api.Message) []string {
	out := []string{}
	for _, m := range l {
		for _, b := range m.Blocks {
			out = append(out, string(b))
		}
	}
	return out
}

// with tells a shelf without a keeper that was handed these blocks.
func with(l ...string) *shelf.Shelf { return over(nil, l...) }

// over tells a shelf over a keeper that was handed these blocks.
func over(k shelf.Keeper, l ...string) *shelf.Shelf {
	s := shelf.New(k)
	for _, b := range l {
		s.Take([]byte(b))
	}
	return s
}

// look tells all that a shelf tells, but for what Take answers.
func look(s *shelf.Shelf) string {
	t := &strings.Builder{}
	fmt.Fprintf(t, "%d held %x, heads %x, waiting %x, missing %x", s.Len(), s.Order(), s.Heads(), s.Waiting(), s.Missing())
	for _, h := range s.Order() {
		b, e := s.Block(h)
		fmt.Fprintf(t, "; %x %d", hashOf(string(b)), e)
	}
	return t.String()
}

// sameMessage tells whether two messages are the same.
func sameMessage(a, b api.Message) bool {
	return a.Kind == b.Kind && a.Salt == b.Salt && slices.Equal(a.Heads, b.Heads) && bytes.Equal(a.Bloom, b.Bloom) &&
		slices.Equal(a.Want, b.Want) && slices.EqualFunc(a.Blocks, b.Blocks, bytes.Equal)
}

// sameTaken tells whether the same came of two.
func sameTaken(a, b api.Taken) bool {
	return a.How == b.How && slices.Equal(a.IDs, b.IDs) && slices.Equal(a.Lost, b.Lost)
}

// chance makes numbers that are the same at each run.
func chance() *rand.Rand { return rand.New(rand.NewPCG(20, 5)) }

func one[T any](r *rand.Rand, l ...T) T { return l[r.IntN(len(l))] }

// mixed tells a list in another order.
func mixed[T any](r *rand.Rand, l []T) []T {
	l = slices.Clone(l)
	r.Shuffle(len(l), func(i, j int) { l[i], l[j] = l[j], l[i] })
	return l
}

// some tells some of a list, in its order.
func some[T any](r *rand.Rand, l []T) []T {
	out, often := []T{}, r.IntN(5)
	for _, x := range l {
		if r.IntN(4) < often {
			out = append(out, x)
		}
	}
	return out
}

// graph tells so many blocks whose clocks fit, parents ahead.
func graph(r *rand.Rand, n int) []string {
	l := []string{}
	most := one(r, 2, 4, 30)
	for i := range n {
		x := api.Node{Author: 1 + r.IntN(api.MaxReplicas), Clock: 1, Ops: []api.Op{{Kind: api.OpAdd, Key: "k", Text: fmt.Sprint(r.Uint32(), i)}}}
		for range one(r, 0, 1, 1, 1, 2, 3) {
			if i > 0 {
				p := l[max(0, i-1-r.IntN(most))]
				x.Parents = rising(append(x.Parents, hashOf(p)))
				x.Clock = max(x.Clock, nodeOf(p).Clock+1)
			}
		}
		l = append(l, blockOf(x))
	}
	return l
}

// misfit tells a block like one of a graph, whose clock doesn't fit.
func misfit(r *rand.Rand, l []string) string {
	x := nodeOf(one(r, l...))
	x.Clock += 1 + r.IntN(3)
	x.Parents = rising(append(x.Parents, hashOf(one(r, l...))))
	return blockOf(x)
}

// show tells hashes for a failure's message, by their first bytes.
func show(l []api.Hash) string {
	s := []string{}
	for i, h := range l {
		if i == 20 {
			s = append(s, fmt.Sprintf("..(%d hashes)", len(l)))
			break
		}
		s = append(s, fmt.Sprintf("%x", h[:3]))
	}
	return "[" + strings.Join(s, " ") + "]"
}

// showMessage tells a message for a failure's message.
func showMessage(m api.Message) string {
	return fmt.Sprintf("(%d, Heads %s, Salt %d, Bloom %.20x, Want %s, Blocks %s)", m.Kind, show(m.Heads), m.Salt, m.Bloom, show(m.Want), show(hashesOf(blocksIn([]api.Message{m}))))
}

// showAnswer tells what was answered for a failure's message.
func showAnswer(out []api.Message, taken api.Taken, e api.Errno) string {
	s := []string{}
	for _, m := range out {
		s = append(s, showMessage(m))
	}
	return fmt.Sprintf("%d messages [%s], taken (%d, IDs %s, Lost %s), error %d", len(out), strings.Join(s, " "), taken.How, show(taken.IDs), show(taken.Lost), e)
}
