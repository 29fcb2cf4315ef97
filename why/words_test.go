package why_test

import (
	"bytes"
	"fmt"
	"math"
	"math/rand/v2"
	"slices"
	"strings"

	"pleach/api"
	"pleach/why"
)

// What the document's words say of a history, told in another way than the package does: every operation is held against every other one, who has seen whom is found by going up all ways of parents, and the kinds are looked up in the document's own tables.

// find tells the entry of a hash in a list that has it.
func find(l []api.Entry, h api.Hash) api.Entry {
	return l[slices.IndexFunc(l, func(x api.Entry) bool { return x.ID == h })]
}

// in tells whether one of a list has a hash.
func in(l []api.Entry, h api.Hash) bool {
	return slices.ContainsFunc(l, func(x api.Entry) bool { return x.ID == h })
}

// oneOrder tells entries in the one order: again and again, of all that aren't placed and whose parents are, the one of the least hash.
func oneOrder(l []api.Entry) []api.Entry {
	placed := []api.Entry{}
	for len(placed) < len(l) {
		ready := []api.Hash{}
		for _, x := range l {
			lacks := func(h api.Hash) bool { return !in(placed, h) }
			if lacks(x.ID) && !slices.ContainsFunc(x.Node.Parents, lacks) {
				ready = append(ready, x.ID)
			}
		}
		placed = append(placed, find(l, rising(ready)[0]))
	}
	return placed
}

// seen tells all that one has seen in a closed list.
func seen(l []api.Entry, h api.Hash) []api.Hash {
	out := []api.Hash{}
	for ways := find(l, h).Node.Parents; len(ways) > 0; ways = ways[1:] {
		if !slices.Contains(out, ways[0]) {
			out = append(out, ways[0])
			ways = slices.Concat(ways, find(l, ways[0]).Node.Parents)
		}
	}
	return out
}

// upTo tells the entries of a closed list that are of some hashes, or that these have seen.
func upTo(l []api.Entry, heads []api.Hash) []api.Entry {
	known := slices.Clone(heads)
	for _, h := range heads {
		known = append(known, seen(l, h)...)
	}
	out := []api.Entry{}
	for _, x := range l {
		if slices.Contains(known, x.ID) {
			out = append(out, x)
		}
	}
	return out
}

// deed is an operation with its name, its author, and what its transaction has seen.
type deed struct {
	op     api.Op
	name   api.Ident
	author int
	sees   []api.Hash
}

// spokenOf are the kinds of operations that speak of a kind of cell.
func spokenOf() map[int][]int {
	return map[int][]int{
		api.CellRegister: {api.OpPut, api.OpClear},
		api.CellSet:      {api.OpAdd, api.OpRemove, api.OpWipe},
		api.CellCounter:  {api.OpIncr, api.OpZero},
		api.CellList:     {api.OpInsert, api.OpDelete},
	}
}

// deeds tells all operations of a cell in the one order.
func deeds(l []api.Entry, kind int, key string) []deed {
	out := []deed{}
	for _, x := range oneOrder(l) {
		sees := seen(l, x.ID)
		for i, o := range x.Node.Ops {
			if o.Key == key && slices.Contains(spokenOf()[kind], o.Kind) {
				out = append(out, deed{op: o, name: api.Ident{Node: x.ID, Op: i + 1}, author: x.Node.Author, sees: sees})
			}
		}
	}
	return out
}

// hasSeen tells whether an operation has seen another one.
func (d deed) hasSeen(o deed) bool {
	return slices.Contains(d.sees, o.name.Node) || d.name.Node == o.name.Node && d.name.Op > o.name.Op
}

// names tells whether an operation's At names another one, which it has seen.
func (d deed) names(o deed) bool {
	at := d.op.At
	if at.Node == (api.Hash{}) {
		at.Node = d.name.Node
	}
	return at == o.name && d.hasSeen(o)
}

// undoes tells whether an operation of the same cell undoes another one.
func (d deed) undoes(o deed) bool {
	is := false
	switch o.op.Kind {
	case api.OpPut:
		is = d.op.Kind == api.OpPut || d.op.Kind == api.OpClear
	case api.OpAdd:
		is = d.op.Kind == api.OpRemove && d.op.Text == o.op.Text || d.op.Kind == api.OpWipe
	case api.OpIncr:
		is = d.op.Kind == api.OpZero
	case api.OpInsert:
		is = d.op.Kind == api.OpDelete && d.names(o)
	}
	return is && d.hasSeen(o)
}

// makes tells whether one of all operations of a cell makes something.
func makes(all []deed, d deed) bool {
	if d.op.Kind == api.OpInsert && d.op.At != (api.Ident{}) {
		return slices.ContainsFunc(all, func(o deed) bool { return o.op.Kind == api.OpInsert && d.names(o) && makes(all, o) })
	}
	return slices.Contains([]int{api.OpPut, api.OpAdd, api.OpIncr, api.OpInsert}, d.op.Kind)
}

// tale is what the words say of a cell: its makers, with what they are, and what is undone.
type tale struct {
	makers, undone []why.Mark
	ops            []api.Op
}

func taleOf(l []api.Entry, kind int, key string) tale {
	w, all := tale{}, deeds(l, kind, key)
	for _, d := range all {
		if !makes(all, d) {
			continue
		}
		m := why.Mark{Of: d.name, Author: d.author}
		for _, o := range all {
			if o.undoes(d) {
				m.By = append(m.By, o.name)
			}
		}
		if len(m.By) > 0 {
			w.undone = append(w.undone, m)
		} else {
			w.makers, w.ops = append(w.makers, m), append(w.ops, d.op)
		}
	}
	return w
}

// authors tells those of marks, rising, each once.
func authors(l []why.Mark) []int {
	out := []int{}
	for _, m := range l {
		out = append(out, m.Author)
	}
	slices.Sort(out)
	return slices.Compact(out)
}

// lacking tells those of marks whose transaction a list doesn't have.
func lacking(l []why.Mark, has []api.Entry) []why.Mark {
	return slices.DeleteFunc(slices.Clone(l), func(m why.Mark) bool { return in(has, m.Of.Node) })
}

// rising tells hashes rising, each once.
func rising(l []api.Hash) []api.Hash {
	out := slices.Clone(l)
	slices.SortFunc(out, func(a, b api.Hash) int { return bytes.Compare(a[:], b[:]) })
	return slices.Compact(out)
}

// chance makes numbers that are the same at each run.
func chance() *rand.Rand { return rand.New(rand.NewPCG(25, 6)) }

func any1[T any](r *rand.Rand, l ...T) T { return l[r.IntN(len(l))] }

// mixed tells a list in another order.
func mixed[T any](r *rand.Rand, l []T) []T {
	l = slices.Clone(l)
	r.Shuffle(len(l), func(i, j int) { l[i], l[j] = l[j], l[i] })
	return l
}

// number tells a hash by a number: those of greater numbers are greater, and none is the zero hash.
func number(n int) api.Hash { return api.Hash{0, byte(n >> 8), byte(n), 1} }

// names are keys, some of which begin others, or are no text; oftenest one.
func names() []string {
	return []string{"", "k", "k\x00", "kk", "K", "\xff", "é", "k", "k", "k", "k", "k", "k"}
}

// soil is what histories grow on: the keys of which they speak, and how many operations a transaction has at most.
type soil struct {
	r    *rand.Rand
	keys []string
	most int
}

// someOp tells the next operation of a transaction behind those ahead: the entries are those that it may name.
func (s soil) someOp(own api.Hash, ahead []api.Op, l []api.Entry) api.Op {
	r := s.r
	kind := any1(r, api.OpPut, api.OpPut, api.OpClear, api.OpAdd, api.OpAdd, api.OpAdd, api.OpRemove, api.OpRemove, api.OpWipe, api.OpIncr, api.OpIncr, api.OpIncr, api.OpZero, api.OpZero, api.OpInsert, api.OpInsert, api.OpInsert, api.OpInsert, api.OpDelete, api.OpDelete, api.OpDelete)
	o := api.Op{Kind: kind, Key: any1(r, s.keys...)}
	switch kind {
	case api.OpPut, api.OpInsert:
		o.Text = any1(r, "", "a", "b", "\xff\x00", fmt.Sprint(r.IntN(1000)))
	case api.OpAdd, api.OpRemove:
		o.Text = any1(r, "", "a", "a\x00", "b", "c", "\xff")
	case api.OpIncr:
		o.N = any1(r, 0, 1, -1, 1, -1, 2, 64, -65, math.MaxInt64, math.MinInt64, int64(r.Uint64()))
	}
	if kind == api.OpInsert || kind == api.OpDelete {
		o.At = someAt(r, o, own, ahead, l)
	}
	return o
}

// someAt tells an At that an operation may have.
func someAt(r *rand.Rand, o api.Op, own api.Hash, ahead []api.Op, l []api.Entry) api.Ident {
	may := ofKey(ahead, o.Key, api.Hash{})
	if o.Kind == api.OpInsert {
		may = append(may, api.Ident{}, api.Ident{})
	}
	for _, x := range l {
		may = append(may, ofKey(x.Node.Ops, o.Key, x.ID)...)
	}
	if len(may) == 0 || r.IntN(8) == 0 { // such as name an item seldom
		may = []api.Ident{{Node: own, Op: 1 + r.IntN(5)}, {Node: number(9999), Op: 1}}
		for _, x := range l {
			may = append(may, api.Ident{Node: x.ID, Op: any1(r, 1, 2, 3, 7, api.MaxOps)})
		}
	}
	return any1(r, may...)
}

// ofKey tells the names of those operations that insert under a key.
func ofKey(ops []api.Op, key string, h api.Hash) []api.Ident {
	out := []api.Ident{}
	for i, o := range ops {
		if o.Kind == api.OpInsert && o.Key == key {
			out = append(out, api.Ident{Node: h, Op: i + 1})
		}
	}
	return out
}

// graph tells entries that make a history of so many, parents ahead; their hashes are in no order.
func graph(r *rand.Rand, n int) []api.Entry {
	return soil{r: r, keys: names(), most: 8}.grown(nil, n)
}

// grown tells a history with so many more.
func (s soil) grown(l []api.Entry, n int) []api.Entry {
	l = slices.Clone(l)
	for _, h := range s.r.Perm(1000 + n) {
		if n == 0 {
			break
		}
		if id := any1(s.r, number(h), number(h), number(h), api.Hash{}); !in(l, id) { // hashes are taken as they are told: the zero one, too
			l = append(l, s.someEntry(id, l))
			n--
		}
	}
	return l
}

// someEntry tells one of a hash that may stand behind a history.
func (s soil) someEntry(h api.Hash, l []api.Entry) api.Entry {
	r, parents := s.r, []api.Hash{}
	for range any1(r, 0, 1, 1, 2, 2, 3) {
		if len(l) > 0 {
			parents = append(parents, l[max(0, len(l)-1-r.IntN(any1(r, 3, 20)))].ID)
		}
	}
	ops := []api.Op{}
	known := upTo(l, parents)
	for range r.IntN(s.most + 1) {
		ops = append(ops, s.someOp(h, ops, any1(r, known, known, known, l)))
	}
	x := behind(h, l, parents, ops...)
	x.Node.Author = 1 + r.IntN(api.MaxReplicas)
	return mayBe(x)
}

// mayBe tells an entry without such operations as may not be: an At of the zero hash names its own transaction.
func mayBe(x api.Entry) api.Entry {
	ops := []api.Op{}
	for _, o := range x.Node.Ops {
		if o.At.Op == 0 || o.At.Node != (api.Hash{}) || slices.Contains(ofKey(ops, o.Key, api.Hash{}), o.At) {
			ops = append(ops, o)
		}
	}
	x.Node.Ops = ops
	return x
}

// behind tells an entry of these parents, which are of a list, with the clock that fits.
func behind(h api.Hash, l []api.Entry, parents []api.Hash, ops ...api.Op) api.Entry {
	n := api.Node{Author: 1, Clock: 1, Parents: rising(parents), Ops: ops}
	for _, p := range n.Parents {
		n.Clock = max(n.Clock, find(l, p).Node.Clock+1)
	}
	return api.Entry{ID: h, Node: n}
}

// some tells some hashes of entries, in whatever order, some of them twice.
func some(r *rand.Rand, l []api.Entry) []api.Hash {
	out := []api.Hash{}
	for range r.IntN(4) {
		if len(l) > 0 {
			out = append(out, any1(r, l...).ID)
		}
	}
	return out
}

// showAll tells entries for a failure's message.
func showAll(l []api.Entry) string {
	s := []string{}
	for _, x := range l {
		s = append(s, fmt.Sprintf("%x by %d of %x:", x.ID[:3], x.Node.Author, x.Node.Parents))
		for _, o := range x.Node.Ops {
			s = append(s, fmt.Sprintf("(%d %q %q %d %x:%d)", o.Kind, o.Key, o.Text, o.N, o.At.Node[:3], o.At.Op))
		}
		s = append(s, ";")
	}
	return strings.Join(s, " ")
}

// show tells marks for a failure's message.
func show(l []why.Mark) string {
	s := []string{}
	for _, m := range l {
		s = append(s, fmt.Sprintf("%x:%d by %d", m.Of.Node[:3], m.Of.Op, m.Author))
		for _, b := range m.By {
			s = append(s, fmt.Sprintf("- %x:%d", b.Node[:3], b.Op))
		}
		s = append(s, ";")
	}
	return strings.Join(s, " ")
}
