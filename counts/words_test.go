package counts_test

import (
	"bytes"
	"fmt"
	"math"
	"math/big"
	"math/rand/v2"
	"slices"
	"strings"

	"pleach/api"
)

// What the document's words say of counters, told in another way than the package does: every operation is held against every other one, and who has seen whom is found by going up all ways of parents.

// find tells the entry of a hash in a list that has it.
func find(l []api.Entry, h api.Hash) api.Entry {
	return l[slices.IndexFunc(l, func(x api.Entry) bool { return x.ID == h })]
}

// in tells whether one of a list has a hash.
func in(l []api.Entry, h api.Hash) bool {
	return slices.ContainsFunc(l, func(x api.Entry) bool { return x.ID == h })
}

// oneOrder tells entries in the one order: again and again, of all that aren't placed and whose parents are, the one of the least hash.
func oneOrder(l []api.Entry) []api.Entry {
	placed := []api.Entry{}
	for len(placed) < len(l) {
		ready := []api.Hash{}
		for _, x := range l {
			lacks := func(h api.Hash) bool { return !in(placed, h) }
			if lacks(x.ID) && !slices.ContainsFunc(x.Node.Parents, lacks) {
				ready = append(ready, x.ID)
			}
		}
		placed = append(placed, find(l, rising(ready)[0]))
	}
	return placed
}

// seen tells all that one has seen in a closed list.
func seen(l []api.Entry, h api.Hash) []api.Hash {
	out := []api.Hash{}
	for ways := find(l, h).Node.Parents; len(ways) > 0; ways = ways[1:] {
		if !slices.Contains(out, ways[0]) {
			out = append(out, ways[0])
			ways = slices.Concat(ways, find(l, ways[0]).Node.Parents)
		}
	}
	return out
}

// upTo tells the entries of a closed list that are of some hashes, or that these have seen.
func upTo(l []api.Entry, heads []api.Hash) []api.Entry {
	out := []api.Entry{}
	for _, x := range l {
		if slices.ContainsFunc(heads, func(h api.Hash) bool { return h == x.ID || slices.Contains(seen(l, h), x.ID) }) {
			out = append(out, x)
		}
	}
	return out
}

// headsOf tells the hashes of those of a closed list that none of it has seen, rising.
func headsOf(l []api.Entry) []api.Hash {
	out := []api.Hash{}
	for _, x := range l {
		if !slices.ContainsFunc(l, func(y api.Entry) bool { return slices.Contains(y.Node.Parents, x.ID) }) {
			out = append(out, x.ID)
		}
	}
	return rising(out)
}

// deed is an operation with its number, and what its transaction has seen.
type deed struct {
	op     api.Op
	number int
	tx     api.Hash
	sees   []api.Hash
}

// deeds tells all operations of a closed list in the one order.
func deeds(l []api.Entry) []deed {
	out := []deed{}
	for _, x := range oneOrder(l) {
		sees := seen(l, x.ID)
		for i, o := range x.Node.Ops {
			out = append(out, deed{op: o, number: i + 1, tx: x.ID, sees: sees})
		}
	}
	return out
}

// hasSeen tells whether an operation has seen another one.
func (d deed) hasSeen(o deed) bool {
	return slices.Contains(d.sees, o.tx) || d.tx == o.tx && d.number > o.number
}

// undoes tells whether an operation leaves nothing of what another one has counted.
func (d deed) undoes(o deed) bool {
	return d.op.Kind == api.OpZero && d.op.Key == o.op.Key && d.hasSeen(o)
}

// round tells a sum as an int64: what is left of it at a division by 2^64, and that less 2^64, if it is 2^63 or more.
func round(sum *big.Int) int64 {
	whole := new(big.Int).Lsh(big.NewInt(1), 64)
	left := new(big.Int).Mod(sum, whole)
	if left.Bit(63) == 1 {
		left.Sub(left, whole)
	}
	return left.Int64()
}

// shown tells what all counters come to, but for those that come to 0.
func shown(l []api.Entry) map[string]int64 {
	sums := map[string]*big.Int{}
	all := deeds(l)
	for _, x := range all {
		if x.op.Kind == api.OpIncr && !slices.ContainsFunc(all, func(y deed) bool { return y.undoes(x) }) {
			if sums[x.op.Key] == nil {
				sums[x.op.Key] = new(big.Int)
			}
			sums[x.op.Key].Add(sums[x.op.Key], big.NewInt(x.op.N))
		}
	}
	out := map[string]int64{}
	for key, sum := range sums {
		if n := round(sum); n != 0 {
			out[key] = n
		}
	}
	return out
}

// rising tells hashes rising, each once.
func rising(l []api.Hash) []api.Hash {
	out := slices.Clone(l)
	slices.SortFunc(out, func(a, b api.Hash) int { return bytes.Compare(a[:], b[:]) })
	return slices.Compact(out)
}

// chance makes numbers that are the same at each run.
func chance() *rand.Rand { return rand.New(rand.NewPCG(16, 4)) }

func any1[T any](r *rand.Rand, l ...T) T { return l[r.IntN(len(l))] }

// mixed tells a list in another order.
func mixed[T any](r *rand.Rand, l []T) []T {
	l = slices.Clone(l)
	r.Shuffle(len(l), func(i, j int) { l[i], l[j] = l[j], l[i] })
	return l
}

// number tells a hash by a number: those of greater numbers are greater, and none is the zero hash.
func number(n int) api.Hash { return api.Hash{0, byte(n >> 8), byte(n), 1} }

// names are keys, some of which begin others, or are no text.
func names() []string { return []string{"", "k", "k\x00", "kk", "K", "\xff", "é"} }

// someKey tells a key, oftenest one.
func someKey(r *rand.Rand) string { return any1(r, append(names(), "k", "k", "k", "k", "k", "k")...) }

// someN tells a number: a small one, so that sums come to 0, or one with which they pass the ends.
func someN(r *rand.Rand) int64 {
	return any1(r, 0, 1, -1, 1, -1, 2, -3, 7, math.MaxInt64, math.MinInt64, math.MinInt64, math.MinInt64+1, 1<<62, int64(r.Uint64()))
}

// someOp tells an operation of a counter, as a rule, or of another kind.
func someOp(r *rand.Rand) api.Op {
	o := api.Op{Kind: any1(r, api.OpIncr, api.OpIncr, api.OpIncr, api.OpZero), Key: someKey(r)}
	if r.IntN(6) == 0 {
		o.Kind = any1(r, otherKinds()...)
	}
	return fitted(o, someN(r))
}

// otherKinds are those that have nothing to do with counters.
func otherKinds() []int {
	return []int{api.OpPut, api.OpClear, api.OpAdd, api.OpRemove, api.OpWipe, api.OpInsert, api.OpDelete}
}

// fitted tells an operation with those fields that its kind has.
func fitted(o api.Op, n int64) api.Op {
	switch o.Kind {
	case api.OpPut, api.OpAdd, api.OpRemove, api.OpInsert:
		o.Text = fmt.Sprint(n)
	case api.OpIncr:
		o.N = n
	case api.OpDelete:
		o.At = api.Ident{Node: number(7), Op: 1}
	}
	return o
}

// graph tells entries that make a history of so many, parents ahead; their hashes are in no order.
func graph(r *rand.Rand, n int) []api.Entry { return grown(r, nil, n) }

// grown tells a history with so many more.
func grown(r *rand.Rand, l []api.Entry, n int) []api.Entry {
	l = slices.Clone(l)
	for _, h := range r.Perm(1000 + n) {
		if n == 0 {
			break
		}
		if !in(l, number(h)) {
			l = append(l, someEntry(r, number(h), l))
			n--
		}
	}
	return l
}

// someEntry tells one of a hash that may stand behind a history.
func someEntry(r *rand.Rand, h api.Hash, l []api.Entry) api.Entry {
	parents := []api.Hash{}
	for range any1(r, 0, 1, 1, 2, 3) {
		if len(l) > 0 {
			parents = append(parents, l[max(0, len(l)-1-r.IntN(any1(r, 3, 20)))].ID)
		}
	}
	ops := []api.Op{}
	for range any1(r, 0, 1, 1, 1, 2, 3, 6) {
		ops = append(ops, someOp(r))
	}
	x := behind(h, l, parents, ops...)
	x.Node.Author = 1 + r.IntN(api.MaxReplicas)
	return x
}

// behind tells an entry of these parents, which are of a list, with the clock that fits.
func behind(h api.Hash, l []api.Entry, parents []api.Hash, ops ...api.Op) api.Entry {
	n := api.Node{Author: 1, Clock: 1, Parents: rising(parents), Ops: ops}
	for _, p := range n.Parents {
		n.Clock = max(n.Clock, find(l, p).Node.Clock+1)
	}
	return api.Entry{ID: h, Node: n}
}

// some tells some hashes of entries, in whatever order, some of them twice.
func some(r *rand.Rand, l []api.Entry) []api.Hash {
	out := []api.Hash{}
	for range r.IntN(4) {
		if len(l) > 0 {
			out = append(out, any1(r, l...).ID)
		}
	}
	return out
}

// showAll tells entries for a failure's message.
func showAll(l []api.Entry) string {
	s := []string{}
	for _, x := range l {
		s = append(s, fmt.Sprintf("%x of %x:", x.ID[:3], x.Node.Parents))
		for _, o := range x.Node.Ops {
			s = append(s, fmt.Sprintf("(%d %q %d)", o.Kind, o.Key, o.N))
		}
		s = append(s, ";")
	}
	return strings.Join(s, " ")
}
