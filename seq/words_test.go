package seq_test

import (
	"bytes"
	"fmt"
	"math/rand/v2"
	"slices"
	"strings"

	"pleach/api"
)

// What the document's words say of lists, told in another way than the package does: every operation is held against every other one, who has seen whom is found by going up all ways of parents, and a list is gone down item by item.

// find tells the entry of a hash in a list that has it.
func find(l []api.Entry, h api.Hash) api.Entry {
	return l[slices.IndexFunc(l, func(x api.Entry) bool { return x.ID == h })]
}

// in tells whether one of a list has a hash.
func in(l []api.Entry, h api.Hash) bool {
	return slices.ContainsFunc(l, func(x api.Entry) bool { return x.ID == h })
}

// oneOrder tells entries in the one order: again and again, of all that aren't placed and whose parents are, the one of the least hash.
func oneOrder(l []api.Entry) []api.Entry {
	placed := []api.Entry{}
	for len(placed) < len(l) {
		ready := []api.Hash{}
		for _, x := range l {
			lacks := func(h api.Hash) bool { return !in(placed, h) }
			if lacks(x.ID) && !slices.ContainsFunc(x.Node.Parents, lacks) {
				ready = append(ready, x.ID)
			}
		}
		placed = append(placed, find(l, rising(ready)[0]))
	}
	return placed
}

// seen tells all that one has seen in a closed list.
func seen(l []api.Entry, h api.Hash) []api.Hash {
	out := []api.Hash{}
	for ways := find(l, h).Node.Parents; len(ways) > 0; ways = ways[1:] {
		if !slices.Contains(out, ways[0]) {
			out = append(out, ways[0])
			ways = slices.Concat(ways, find(l, ways[0]).Node.Parents)
		}
	}
	return out
}

// upTo tells the entries of a closed list that are of some hashes, or that these have seen.
func upTo(l []api.Entry, heads []api.Hash) []api.Entry {
	out := []api.Entry{}
	for _, x := range l {
		if slices.ContainsFunc(heads, func(h api.Hash) bool { return h == x.ID || slices.Contains(seen(l, h), x.ID) }) {
			out = append(out, x)
		}
	}
	return out
}

// headsOf tells the hashes of those of a closed list that none of it has seen, rising.
func headsOf(l []api.Entry) []api.Hash {
	out := []api.Hash{}
	for _, x := range l {
		if !slices.ContainsFunc(l, func(y api.Entry) bool { return slices.Contains(y.Node.Parents, x.ID) }) {
			out = append(out, x.ID)
		}
	}
	return rising(out)
}

// deed is an operation with its name, and what its transaction has seen.
type deed struct {
	op   api.Op
	name api.Ident
	sees []api.Hash
}

// deeds tells all operations of a closed list in the one order.
func deeds(l []api.Entry) []deed {
	out := []deed{}
	for _, x := range oneOrder(l) {
		sees := seen(l, x.ID)
		for i, o := range x.Node.Ops {
			out = append(out, deed{op: o, name: api.Ident{Node: x.ID, Op: i + 1}, sees: sees})
		}
	}
	return out
}

// hasSeen tells whether an operation has seen another one.
func (d deed) hasSeen(o deed) bool {
	return slices.Contains(d.sees, o.name.Node) || d.name.Node == o.name.Node && d.name.Op > o.name.Op
}

// names tells whether an operation's At names another one of the same key, which it has seen.
func (d deed) names(o deed) bool {
	at := d.op.At
	if at.Node == (api.Hash{}) {
		at.Node = d.name.Node
	}
	return at == o.name && d.op.Key == o.op.Key && d.hasSeen(o)
}

// isItem tells whether one of all operations is an item.
func isItem(all []deed, d deed) bool {
	if d.op.Kind != api.OpInsert || d.op.At == (api.Ident{}) {
		return d.op.Kind == api.OpInsert
	}
	return slices.ContainsFunc(all, func(o deed) bool { return d.names(o) && isItem(all, o) })
}

// isGone tells whether an item is gone.
func isGone(all []deed, d deed) bool {
	return slices.ContainsFunc(all, func(o deed) bool { return o.op.Kind == api.OpDelete && o.names(d) })
}

// itemsOf tells those of all operations that are items of a key, in the one order.
func itemsOf(all []deed, key string) []deed {
	out := []deed{}
	for _, d := range all {
		if d.op.Key == key && isItem(all, d) {
			out = append(out, d)
		}
	}
	return out
}

// laidBehind tells those of a list's items that are laid behind one, or at the beginning, the later ones first.
func laidBehind(items []deed, at *deed) []deed {
	out := []deed{}
	for _, d := range items {
		if at == nil && d.op.At == (api.Ident{}) || at != nil && d.op.At != (api.Ident{}) && d.names(*at) {
			out = append([]deed{d}, out...)
		}
	}
	return out
}

// listed tells a list's items that stand behind one, or behind the beginning, in the list's order.
func listed(items []deed, at *deed) []deed {
	out := []deed{}
	for _, d := range laidBehind(items, at) {
		out = append(append(out, d), listed(items, &d)...)
	}
	return out
}

// asItems tells operations as items.
func asItems(l []deed) []api.Item {
	out := []api.Item{}
	for _, d := range l {
		out = append(out, api.Item{ID: d.name, Text: d.op.Text})
	}
	return out
}

// list is what the words say of a list.
type list struct {
	all, shown []api.Item
	behind     map[api.Ident][]api.Item // of each item, and of the beginning
}

// lists tells what the words say of the lists of some keys, those that have no item too.
func lists(l []api.Entry, keys []string) map[string]list {
	all, out := deeds(l), map[string]list{}
	for _, key := range keys {
		items := itemsOf(all, key)
		order := listed(items, nil)
		x := list{all: asItems(order), behind: map[api.Ident][]api.Item{{}: asItems(laidBehind(items, nil))}}
		for _, d := range order {
			x.behind[d.name] = asItems(laidBehind(items, &d))
		}
		x.shown = asItems(slices.DeleteFunc(order, func(d deed) bool { return isGone(all, d) }))
		out[key] = x
	}
	return out
}

// rising tells hashes rising, each once.
func rising(l []api.Hash) []api.Hash {
	out := slices.Clone(l)
	slices.SortFunc(out, func(a, b api.Hash) int { return bytes.Compare(a[:], b[:]) })
	return slices.Compact(out)
}

// chance makes numbers that are the same at each run.
func chance() *rand.Rand { return rand.New(rand.NewPCG(17, 4)) }

func any1[T any](r *rand.Rand, l ...T) T { return l[r.IntN(len(l))] }

// mixed tells a list in another order.
func mixed[T any](r *rand.Rand, l []T) []T {
	l = slices.Clone(l)
	r.Shuffle(len(l), func(i, j int) { l[i], l[j] = l[j], l[i] })
	return l
}

// number tells a hash by a number: those of greater numbers are greater, and none is the zero hash.
func number(n int) api.Hash { return api.Hash{0, byte(n >> 8), byte(n), 1} }

// names are keys, some of which begin others, or are no text.
func names() []string { return []string{"", "k", "k\x00", "kk", "K", "\xff"} }

// someKey tells a key, oftenest one.
func someKey(r *rand.Rand) string {
	return any1(r, append(names(), "k", "k", "k", "k", "k", "k", "k", "k")...)
}

// someOp tells the next operation of a transaction behind those ahead, of a list as a rule: the entries are those that it may name.
func someOp(r *rand.Rand, own api.Hash, ahead []api.Op, l []api.Entry) api.Op {
	o := api.Op{Kind: any1(r, api.OpInsert, api.OpInsert, api.OpInsert, api.OpDelete), Key: someKey(r)}
	if r.IntN(6) == 0 {
		o.Kind = any1(r, otherKinds()...)
	}
	if o.Kind == api.OpInsert || o.Kind == api.OpDelete {
		o.At = someAt(r, o, own, ahead, l)
	}
	return fitted(o, fmt.Sprint(r.IntN(100)))
}

// someAt tells an At that an operation may have.
func someAt(r *rand.Rand, o api.Op, own api.Hash, ahead []api.Op, l []api.Entry) api.Ident {
	may := ofKey(ahead, o.Key, api.Hash{})
	if o.Kind == api.OpInsert {
		may = append(may, api.Ident{}, api.Ident{})
	}
	for _, x := range l {
		may = append(may, ofKey(x.Node.Ops, o.Key, x.ID)...)
	}
	if len(may) == 0 || r.IntN(8) == 0 { // such as name an item seldom
		may = []api.Ident{{Node: own, Op: 1 + r.IntN(5)}, {Node: number(9999), Op: 1}}
		for _, x := range l {
			may = append(may, api.Ident{Node: x.ID, Op: any1(r, 1, 2, 3, 7, api.MaxOps)})
		}
	}
	return any1(r, may...)
}

// ofKey tells the names of those operations that insert under a key.
func ofKey(ops []api.Op, key string, h api.Hash) []api.Ident {
	out := []api.Ident{}
	for i, o := range ops {
		if o.Kind == api.OpInsert && o.Key == key {
			out = append(out, api.Ident{Node: h, Op: i + 1})
		}
	}
	return out
}

// otherKinds are those that have nothing to do with lists.
func otherKinds() []int {
	return []int{api.OpPut, api.OpClear, api.OpAdd, api.OpRemove, api.OpWipe, api.OpIncr, api.OpZero}
}

// fitted tells an operation with a text or a number, if its kind has one.
func fitted(o api.Op, text string) api.Op {
	switch o.Kind {
	case api.OpPut, api.OpAdd, api.OpRemove, api.OpInsert:
		o.Text = text
	case api.OpIncr:
		o.N = int64(len(text))
	}
	return o
}

// graph tells entries that make a history of so many, parents ahead; their hashes are in no order.
func graph(r *rand.Rand, n int) []api.Entry { return grown(r, nil, n) }

// grown tells a history with so many more.
func grown(r *rand.Rand, l []api.Entry, n int) []api.Entry {
	l = slices.Clone(l)
	for _, h := range r.Perm(1000 + n) {
		if n == 0 {
			break
		}
		if !in(l, number(h)) {
			l = append(l, someEntry(r, number(h), l))
			n--
		}
	}
	return l
}

// someEntry tells one of a hash that may stand behind a history.
func someEntry(r *rand.Rand, h api.Hash, l []api.Entry) api.Entry {
	parents := []api.Hash{}
	for range any1(r, 0, 1, 1, 2, 2, 3) {
		if len(l) > 0 {
			parents = append(parents, l[max(0, len(l)-1-r.IntN(any1(r, 3, 20)))].ID)
		}
	}
	ops := []api.Op{}
	known := upTo(l, parents)
	for range any1(r, 0, 1, 1, 1, 2, 3, 6) {
		ops = append(ops, someOp(r, h, ops, any1(r, known, known, known, l)))
	}
	x := behind(h, l, parents, ops...)
	x.Node.Author = 1 + r.IntN(api.MaxReplicas)
	return x
}

// behind tells an entry of these parents, which are of a list, with the clock that fits.
func behind(h api.Hash, l []api.Entry, parents []api.Hash, ops ...api.Op) api.Entry {
	n := api.Node{Author: 1, Clock: 1, Parents: rising(parents), Ops: ops}
	for _, p := range n.Parents {
		n.Clock = max(n.Clock, find(l, p).Node.Clock+1)
	}
	return api.Entry{ID: h, Node: n}
}

// some tells some hashes of entries, in whatever order, some of them twice.
func some(r *rand.Rand, l []api.Entry) []api.Hash {
	out := []api.Hash{}
	for range r.IntN(4) {
		if len(l) > 0 {
			out = append(out, any1(r, l...).ID)
		}
	}
	return out
}

// showAll tells entries for a failure's message.
func showAll(l []api.Entry) string {
	s := []string{}
	for _, x := range l {
		s = append(s, fmt.Sprintf("%x of %x:", x.ID[:3], x.Node.Parents))
		for _, o := range x.Node.Ops {
			s = append(s, fmt.Sprintf("(%d %q %q %x:%d)", o.Kind, o.Key, o.Text, o.At.Node[:3], o.At.Op))
		}
		s = append(s, ";")
	}
	return strings.Join(s, " ")
}

// showItems tells items for a failure's message.
func showItems(l []api.Item) string {
	s := []string{}
	for _, x := range l {
		s = append(s, fmt.Sprintf("%x:%d %q", x.ID.Node[:3], x.ID.Op, x.Text))
	}
	return strings.Join(s, ", ")
}
