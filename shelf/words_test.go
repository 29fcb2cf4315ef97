package shelf_test

import (
	"bytes"
	"crypto/sha256"
	"fmt"
	"math/rand/v2"
	"slices"
	"strings"

	"pleach/api"
	"pleach/node"
)

// What the chapter's words say of a shelf, told in another way than the package does: blocks stand as texts in two lists, each is looked for by going through all, and the one order is laid anew each time, as DOC.md's words have it.

// hashOf tells a block's hash.
func hashOf(b string) api.Hash { return sha256.Sum256([]byte(b)) }

// hashesOf tells the hashes of blocks.
func hashesOf(l []string) []api.Hash {
	out := []api.Hash{}
	for _, b := range l {
		out = append(out, hashOf(b))
	}
	return out
}

// nodeOf tells the transaction of a block.
func nodeOf(b string) api.Node {
	n, err := node.Decode([]byte(b))
	if err != nil {
		panic(err)
	}
	return n
}

// blockOf tells the block of a transaction.
func blockOf(n api.Node) string {
	b, e := node.Encode(n)
	if e != api.OK {
		panic(e)
	}
	return string(b)
}

// made tells the block of a transaction of a clock, with a mark of its own and these blocks as parents.
func made(mark string, clock int, parents ...string) string {
	return blockOf(api.Node{Author: 1, Clock: clock, Parents: rising(hashesOf(parents)), Ops: []api.Op{{Kind: api.OpPut, Key: "k", Text: mark}}})
}

// rising tells hashes rising, each once.
func rising(l []api.Hash) []api.Hash {
	out := slices.Clone(l)
	slices.SortFunc(out, func(a, b api.Hash) int { return bytes.Compare(a[:], b[:]) })
	return slices.Compact(out)
}

// find tells the block of a hash in a list.
func find(l []string, h api.Hash) (string, bool) {
	for _, b := range l {
		if hashOf(b) == h {
			return b, true
		}
	}
	return "", false
}

// allIn tells whether all of some hashes are those of blocks of a list.
func allIn(l []string, hashes []api.Hash) bool {
	return !slices.ContainsFunc(hashes, func(h api.Hash) bool { _, is := find(l, h); return !is })
}

// model is a shelf.
type model struct {
	held, wait []string // as they were taken; the oldest first
	keep       func(b string) api.Errno
	dead       bool
}

// ready tells whether all parents of a block are held.
func (m *model) ready(b string) bool { return allIn(m.held, nodeOf(b).Parents) }

// refuses tells why a block, all of whose parents are held, isn't held.
func (m *model) refuses(b string) api.Errno {
	n := nodeOf(b)
	clock := 1
	for _, h := range n.Parents {
		p, _ := find(m.held, h)
		clock = max(clock, nodeOf(p).Clock+1)
	}
	if n.Clock != clock {
		return api.ErrClock
	}
	if len(m.held) == 4096 {
		return api.ErrMany
	}
	e := m.keep(b)
	m.dead = e == api.ErrPower
	return e
}

func (m *model) take(b string) (api.Taken, error) {
	if m.dead {
		return api.Taken{}, api.ErrPower
	}
	if _, err := node.Entry([]byte(b)); err != nil {
		return api.Taken{}, err
	}
	if slices.Contains(m.held, b) || slices.Contains(m.wait, b) {
		return api.Taken{How: api.Known}, nil
	}
	if !m.ready(b) {
		t := api.Taken{How: api.Waits}
		m.wait = append(m.wait, b)
		if len(m.wait) == 65 {
			t.Lost = hashesOf(m.wait[:1])
			m.wait = slices.Clone(m.wait[1:])
		}
		return t, nil
	}
	if e := m.refuses(b); e != api.OK {
		return api.Taken{}, e
	}
	m.held = append(m.held, b)
	return m.follow(api.Taken{How: api.Took, IDs: hashesOf([]string{b})})
}

// follow takes the followers of one that was taken.
func (m *model) follow(t api.Taken) (api.Taken, error) {
	i := slices.IndexFunc(m.wait, m.ready)
	if i < 0 {
		return t, nil
	}
	b := m.wait[i]
	e := m.refuses(b)
	if m.dead {
		return api.Taken{}, api.ErrPower
	}
	m.wait = slices.Concat(m.wait[:i], m.wait[i+1:])
	if e == api.OK {
		m.held = append(m.held, b)
		t.IDs = append(t.IDs, hashOf(b))
	} else {
		t.Lost = append(t.Lost, hashOf(b))
	}
	return m.follow(t)
}

func (m *model) missing() []api.Hash {
	l := []api.Hash{}
	for _, b := range m.wait {
		for _, h := range nodeOf(b).Parents {
			if !allIn(slices.Concat(m.held, m.wait), []api.Hash{h}) {
				l = append(l, h)
			}
		}
	}
	return rising(l)
}

func (m *model) heads() []api.Hash {
	l := []api.Hash{}
	for _, b := range m.held {
		if !slices.ContainsFunc(m.held, func(x string) bool { return slices.Contains(nodeOf(x).Parents, hashOf(b)) }) {
			l = append(l, hashOf(b))
		}
	}
	return rising(l)
}

// order tells the held ones in the one order: again and again, of all that aren't placed and whose parents are, the one of the least hash.
func (m *model) order() []string {
	placed := []string{}
	for len(placed) < len(m.held) {
		ready := []api.Hash{}
		for _, b := range m.held {
			if !slices.Contains(placed, b) && allIn(placed, nodeOf(b).Parents) {
				ready = append(ready, hashOf(b))
			}
		}
		b, _ := find(m.held, rising(ready)[0])
		placed = append(placed, b)
	}
	return placed
}

// chance makes numbers that are the same at each run.
func chance() *rand.Rand { return rand.New(rand.NewPCG(12, 5)) }

func one[T any](r *rand.Rand, l ...T) T { return l[r.IntN(len(l))] }

// graph tells so many blocks whose clocks fit, parents ahead.
func graph(r *rand.Rand, n int) []string {
	l := []string{}
	for i := range n {
		x := api.Node{Author: 1 + r.IntN(api.MaxReplicas), Clock: 1, Ops: []api.Op{{Kind: api.OpAdd, Key: "k", Text: fmt.Sprint(i)}}}
		for range one(r, 0, 1, 1, 2, 3) {
			if i > 0 {
				p := l[max(0, i-1-r.IntN(one(r, 3, 20)))]
				x.Parents = rising(append(x.Parents, hashOf(p)))
				x.Clock = max(x.Clock, nodeOf(p).Clock+1)
			}
		}
		l = append(l, blockOf(x))
	}
	return l
}

// mixed tells a list in another order.
func mixed[T any](r *rand.Rand, l []T) []T {
	l = slices.Clone(l)
	r.Shuffle(len(l), func(i, j int) { l[i], l[j] = l[j], l[i] })
	return l
}

// show tells hashes for a failure's message, by their first bytes.
func show(l []api.Hash) string {
	s := []string{}
	for i, h := range l {
		if i == 20 {
			s = append(s, fmt.Sprintf("..(%d hashes)", len(l)))
			break
		}
		s = append(s, fmt.Sprintf("%x", h[:3]))
	}
	return "[" + strings.Join(s, " ") + "]"
}

// showTaken tells what came of a Take for a failure's message.
func showTaken(t api.Taken, err error) string {
	return fmt.Sprintf("(%d, IDs %s, Lost %s, %v)", t.How, show(t.IDs), show(t.Lost), err)
}

// sameTaken tells whether the same came of two Takes.
func sameTaken(a, b api.Taken) bool {
	return a.How == b.How && slices.Equal(a.IDs, b.IDs) && slices.Equal(a.Lost, b.Lost)
}

// sameError tells whether two errors are the same number, or the same number at the same place.
func sameError(a, b error) bool {
	x, is := a.(*api.Bad)
	y, isToo := b.(*api.Bad)
	if is && isToo {
		return *x == *y
	}
	return a == b
}
