package past_test

import (
	"bytes"
	"fmt"
	"math/rand/v2"
	"slices"
	"strings"

	"pleach/api"
	"pleach/node"
)

// What the document's words say of histories, told in another way than the package does: entries stand in a list as they came, each is looked for by going through all, who has seen whom is found by going up all ways, and the one order is laid as DOC.md's words have it.

// find tells the entry of a hash in a list.
func find(l []api.Entry, h api.Hash) (api.Entry, bool) {
	for _, x := range l {
		if x.ID == h {
			return x, true
		}
	}
	return api.Entry{}, false
}

func in(l []api.Entry, h api.Hash) bool {
	_, is := find(l, h)
	return is
}

// allIn tells whether all of some hashes are those of entries of a list.
func allIn(l []api.Entry, hashes []api.Hash) bool {
	return !slices.ContainsFunc(hashes, func(h api.Hash) bool { return !in(l, h) })
}

// wrong tells what Of answers of entries: its error, and the number of the entry.
func wrong(l []api.Entry) (api.Errno, int) {
	for i, x := range l {
		switch {
		case i >= api.MaxNodes:
			return api.ErrMany, i
		case node.Check(x.Node) != api.OK:
			return node.Check(x.Node), i
		case in(l[:i], x.ID):
			return api.ErrState, i
		}
	}
	for i, x := range l {
		clocks := []int{}
		for _, h := range x.Node.Parents {
			p, is := find(l, h)
			if !is {
				return api.ErrAbsent, i
			}
			clocks = append(clocks, p.Node.Clock)
		}
		if len(clocks) > 0 && x.Node.Clock != slices.Max(clocks)+1 {
			return api.ErrClock, i
		}
	}
	return api.OK, 0
}

// seen tells all that one has seen in a closed list.
func seen(l []api.Entry, h api.Hash) []api.Hash {
	out := []api.Hash{}
	x, _ := find(l, h)
	for ways := x.Node.Parents; len(ways) > 0; ways = ways[1:] {
		if p, _ := find(l, ways[0]); !slices.Contains(out, p.ID) {
			out = append(out, p.ID)
			ways = slices.Concat(ways, p.Node.Parents)
		}
	}
	return out
}

// oneOrder tells entries in the one order: again and again, of all that aren't placed and whose parents are, the one of the least hash.
func oneOrder(l []api.Entry) []api.Entry {
	placed := []api.Entry{}
	for len(placed) < len(l) {
		ready := []api.Hash{}
		for _, x := range l {
			if !in(placed, x.ID) && allIn(placed, x.Node.Parents) {
				ready = append(ready, x.ID)
			}
		}
		x, _ := find(l, rising(ready)[0])
		placed = append(placed, x)
	}
	return placed
}

// last tells, rising, those of a set of hashes that no other one of it has seen in a closed list.
func last(l []api.Entry, set []api.Hash) []api.Hash {
	out := []api.Hash{}
	for _, h := range set {
		if !slices.ContainsFunc(set, func(x api.Hash) bool { return slices.Contains(seen(l, x), h) }) {
			out = append(out, h)
		}
	}
	return rising(out)
}

// upTo tells the entries of a closed list that are of some hashes, or that these have seen, in the one order.
func upTo(l []api.Entry, heads []api.Hash) []api.Entry {
	out := []api.Entry{}
	for _, x := range l {
		has := func(h api.Hash) bool { return h == x.ID || slices.Contains(seen(l, h), x.ID) }
		if slices.ContainsFunc(heads, has) {
			out = append(out, x)
		}
	}
	return oneOrder(out)
}

// common tells the last ones that two of a closed list have in common.
func common(l []api.Entry, a, b api.Hash) []api.Hash {
	both := []api.Hash{}
	for _, h := range append(seen(l, a), a) {
		if h == b || slices.Contains(seen(l, b), h) {
			both = append(both, h)
		}
	}
	return last(l, both)
}

// since tells the hashes of those that were added from the one heads to the others, in the one order.
func since(l []api.Entry, old, now []api.Hash) []api.Hash {
	out := []api.Hash{}
	for _, x := range upTo(l, now) {
		if !in(upTo(l, old), x.ID) {
			out = append(out, x.ID)
		}
	}
	return out
}

// ids tells the hashes of entries.
func ids(l []api.Entry) []api.Hash {
	out := []api.Hash{}
	for _, x := range l {
		out = append(out, x.ID)
	}
	return out
}

// rising tells hashes rising, each once.
func rising(l []api.Hash) []api.Hash {
	out := slices.Clone(l)
	slices.SortFunc(out, func(a, b api.Hash) int { return bytes.Compare(a[:], b[:]) })
	return slices.Compact(out)
}

// chance makes numbers that are the same at each run.
func chance() *rand.Rand { return rand.New(rand.NewPCG(11, 7)) }

func one[T any](r *rand.Rand, l ...T) T { return l[r.IntN(len(l))] }

// number tells a hash by a number: those of greater numbers are greater, and all are below a.
func number(n int) api.Hash { return api.Hash{0, byte(n >> 8), byte(n)} }

// graph tells entries that make a history of so many, parents ahead; their hashes are in no order.
func graph(r *rand.Rand, n int) []api.Entry {
	l := []api.Entry{}
	for i, h := range r.Perm(2 * n)[:n] {
		x := entry(number(h), 1)
		x.Node.Author = 1 + r.IntN(api.MaxReplicas)
		for range one(r, 0, 1, 1, 2, 3) {
			if i > 0 {
				p := l[max(0, i-1-r.IntN(one(r, 3, 20)))]
				x.Node.Parents = rising(append(x.Node.Parents, p.ID))
				x.Node.Clock = max(x.Node.Clock, p.Node.Clock+1)
			}
		}
		for k := range r.IntN(3) {
			x.Node.Ops = append(x.Node.Ops, api.Op{Kind: api.OpPut, Key: fmt.Sprint("k", k), Text: fmt.Sprint(i)})
		}
		l = append(l, x)
	}
	return l
}

// mixed tells a list in another order.
func mixed(r *rand.Rand, l []api.Entry) []api.Entry {
	l = slices.Clone(l)
	r.Shuffle(len(l), func(i, j int) { l[i], l[j] = l[j], l[i] })
	return l
}

// show tells hashes for a failure's message, by the bytes that aren't 0.
func show(l []api.Hash) string {
	s := []string{}
	for i, h := range l {
		if i == 20 {
			s = append(s, fmt.Sprintf("..(%d hashes)", len(l)))
			break
		}
		s = append(s, fmt.Sprintf("%x", bytes.TrimRight(h[:], "\x00")))
	}
	return "[" + strings.Join(s, " ") + "]"
}

// showAll tells entries for a failure's message.
func showAll(l []api.Entry) string {
	s := []string{}
	for _, x := range l {
		s = append(s, fmt.Sprintf("(%s, %d, %s)", show([]api.Hash{x.ID}), x.Node.Clock, show(x.Node.Parents)))
	}
	return strings.Join(s, " ")
}

// same tells whether two entries are the same in all.
func same(a, b api.Entry) bool { return a.ID == b.ID && node.Same(a.Node, b.Node) }
