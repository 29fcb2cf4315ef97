package live_test

import (
	"bytes"
	"encoding/hex"
	"fmt"
	"math"
	"math/rand/v2"
	"slices"
	"strings"
	"testing"

	"pleach/api"
	"pleach/live"
	"pleach/past"
	"pleach/state"
)

func put(key, text string) api.Op { return api.Op{Kind: api.OpPut, Key: key, Text: text} }

func reset(key string) api.Op { return api.Op{Kind: api.OpClear, Key: key} }

func add(key, text string) api.Op { return api.Op{Kind: api.OpAdd, Key: key, Text: text} }

func remove(key, text string) api.Op { return api.Op{Kind: api.OpRemove, Key: key, Text: text} }

func wipe(key string) api.Op { return api.Op{Kind: api.OpWipe, Key: key} }

func incr(key string, n int64) api.Op { return api.Op{Kind: api.OpIncr, Key: key, N: n} }

func zero(key string) api.Op { return api.Op{Kind: api.OpZero, Key: key} }

// ins lays an item behind another one, or, without an At, at the beginning.
func ins(key, text string, at ...api.Ident) api.Op {
	o := api.Op{Kind: api.OpInsert, Key: key, Text: text}
	if len(at) > 0 {
		o.At = at[0]
	}
	return o
}

func del(key string, at api.Ident) api.Op { return api.Op{Kind: api.OpDelete, Key: key, At: at} }

// id names an operation of a transaction, self one of the transaction itself.
func id(name byte, n int) api.Ident { return api.Ident{Node: api.Hash{name}, Op: n} }

func self(n int) api.Ident { return api.Ident{Op: n} }

// one is a transaction: a letter, which is its hash; those of its parents; what it does.
type one struct {
	name    byte
	parents string
	ops     []api.Op
}

func tx(name byte, parents string, ops ...api.Op) one { return one{name, parents, ops} }

// letters tells hashes.
func letters(s string) []api.Hash {
	l := []api.Hash{}
	for _, name := range []byte(s) {
		l = append(l, api.Hash{name})
	}
	return l
}

// entries tells transactions, parents ahead, as entries.
func entries(all ...one) []api.Entry {
	l := []api.Entry{}
	for _, x := range all {
		l = append(l, behind(api.Hash{x.name}, l, letters(x.parents), x.ops...))
	}
	return l
}

// find tells the entry of a hash in a list that has it.
func find(l []api.Entry, h api.Hash) api.Entry {
	return l[slices.IndexFunc(l, func(x api.Entry) bool { return x.ID == h })]
}

// in tells whether one of a list has a hash.
func in(l []api.Entry, h api.Hash) bool {
	return slices.ContainsFunc(l, func(x api.Entry) bool { return x.ID == h })
}

// behind tells an entry of these parents, which are of a list, with the clock that fits.
func behind(h api.Hash, l []api.Entry, parents []api.Hash, ops ...api.Op) api.Entry {
	n := api.Node{Author: 1, Clock: 1, Parents: rising(parents), Ops: ops}
	for _, p := range n.Parents {
		n.Clock = max(n.Clock, find(l, p).Node.Clock+1)
	}
	return api.Entry{ID: h, Node: n}
}

// rising tells hashes rising, each once.
func rising(l []api.Hash) []api.Hash {
	out := slices.Clone(l)
	slices.SortFunc(out, func(a, b api.Hash) int { return bytes.Compare(a[:], b[:]) })
	return slices.Compact(out)
}

// takes fails, if a Take is answered otherwise.
func takes(t *testing.T, v *live.Live, x api.Entry, want api.Errno) {
	t.Helper()
	if got := v.Take(x); got != want {
		t.Fatalf("Take(%.500s): %d; want %d", showAll([]api.Entry{x}), got, want)
	}
}

// of tells one that has taken entries in their order.
func of(t *testing.T, l ...api.Entry) *live.Live {
	t.Helper()
	v := live.New()
	for _, x := range l {
		takes(t, v, x, api.OK)
	}
	return v
}

// pastOf tells the history of entries, stateOf what it shows.
func pastOf(t *testing.T, l []api.Entry) *past.Past {
	t.Helper()
	p, e, at := past.Of(l)
	if e != api.OK {
		t.Fatalf("past.Of(%.2000s): %d, %d", showAll(l), e, at)
	}
	return p
}

func stateOf(t *testing.T, l []api.Entry) *state.State {
	t.Helper()
	return state.Of(pastOf(t, l))
}

// cell tells one whose Value is written in base sixteen.
func cell(kind int, key, value string) api.Cell {
	b, err := hex.DecodeString(strings.ReplaceAll(value, " ", ""))
	if err != nil {
		panic(err)
	}
	return api.Cell{Kind: kind, Key: key, Value: b}
}

func sameCell(a, b api.Cell) bool {
	return a.Kind == b.Kind && a.Key == b.Key && bytes.Equal(a.Value, b.Value)
}

// wantCells fails, if cells are others, or not in this order.
func wantCells(t *testing.T, what string, got []api.Cell, want ...api.Cell) {
	t.Helper()
	if !slices.EqualFunc(got, want, sameCell) {
		t.Errorf("%s: %.2000s; want %.2000s", what, showCells(got), showCells(want))
	}
}

// kinds are those of cells, and such as are none.
func kinds() []int {
	return []int{api.CellRegister, api.CellSet, api.CellCounter, api.CellList, api.CellNone, 5, 6, -1, -4, 257, math.MaxInt, math.MinInt}
}

// keysOf tells the keys of which entries speak, and one of which they don't, each once.
func keysOf(l []api.Entry) []string {
	keys := []string{"", "k", "none"}
	for _, x := range l {
		for _, o := range x.Node.Ops {
			keys = append(keys, o.Key)
		}
	}
	slices.Sort(keys)
	return slices.Compact(keys)
}

// wantShown fails, if something else is told than the state and the history of entries tell, by whichever call.
func wantShown(t *testing.T, what string, v *live.Live, l []api.Entry) {
	t.Helper()
	p := pastOf(t, l)
	s, keys := state.Of(p), keysOf(l)
	if v.Len() != len(l) {
		t.Errorf("%s: Len: %d; want %d", what, v.Len(), len(l))
	}
	if got, want := v.Heads(), p.Heads(); !slices.Equal(got, want) {
		t.Errorf("%s: Heads: %x; want %x", what, got, want)
	}
	wantCells(t, what+": Cells", v.Cells(), s.Cells()...)
	for _, key := range keys {
		wantTale(t, what, v, s, key)
	}
	for _, kind := range kinds() {
		if got, want := v.Keys(kind), s.Keys(kind); !slices.Equal(got, want) {
			t.Errorf("%s: Keys(%d): %q; want %q", what, kind, got, want)
		}
		for _, key := range keys {
			c, is := v.Cell(kind, key)
			if want, stands := s.Cell(kind, key); is != stands || !sameCell(c, want) {
				t.Errorf("%s: Cell(%d, %.20q): %s, %v; want %s, %v", what, kind, key, showCells([]api.Cell{c}), is, showCells([]api.Cell{want}), stands)
			}
		}
	}
}

// wantTale fails, if of a key something else is told than a state tells.
func wantTale(t *testing.T, what string, v *live.Live, s *state.State, key string) {
	t.Helper()
	if got, want := v.Register(key), s.Register(key); !slices.Equal(got, want) {
		t.Errorf("%s: Register(%.20q): %.200q; want %.200q", what, key, got, want)
	}
	if got, want := v.Members(key), s.Members(key); !slices.Equal(got, want) {
		t.Errorf("%s: Members(%.20q): %.200q; want %.200q", what, key, got, want)
	}
	if got, want := v.Count(key), s.Count(key); got != want {
		t.Errorf("%s: Count(%.20q): %d; want %d", what, key, got, want)
	}
	if got, want := v.Items(key), s.Items(key); !slices.Equal(got, want) {
		t.Errorf("%s: Items(%.20q): %.300s; want %.300s", what, key, showItems(got), showItems(want))
	}
}

// putIn tells cells with changes put into them, those without a Value taken away.
func putIn(l, changes []api.Cell) []api.Cell {
	l = slices.Clone(l)
	for _, c := range changes {
		l = slices.DeleteFunc(l, func(x api.Cell) bool { return x.Kind == c.Kind && x.Key == c.Key })
		if len(c.Value) > 0 {
			l = append(l, c)
		}
	}
	slices.SortFunc(l, func(a, b api.Cell) int {
		if a.Kind != b.Kind {
			return a.Kind - b.Kind
		}
		return bytes.Compare([]byte(a.Key), []byte(b.Key))
	})
	return l
}

// wantTaken fails, if the next entry is not taken, or if then something else is shown than the history of all those taken shows, or if Last is not what has changed; it tells how many cells have.
func wantTaken(t *testing.T, what string, v *live.Live, taken []api.Entry, x api.Entry) int {
	t.Helper()
	ahead := v.Cells()
	takes(t, v, x, api.OK)
	now := append(slices.Clone(taken), x)
	wantShown(t, what, v, now)
	last := v.Last()
	wantCells(t, what+": Last", last, state.Changes(stateOf(t, taken), stateOf(t, now))...)
	wantCells(t, what+": Last put in", putIn(ahead, last), v.Cells()...)
	return len(last)
}

// picture is all that is told at a moment, but for what is told of single keys.
type picture struct {
	cells, last []api.Cell
	heads       []api.Hash
	len         int
}

func pictureOf(v *live.Live) picture { return picture{v.Cells(), v.Last(), v.Heads(), v.Len()} }

// wantPicture fails, if something else is told than was at another moment.
func wantPicture(t *testing.T, what string, v *live.Live, was picture) {
	t.Helper()
	wantCells(t, what+": Cells", v.Cells(), was.cells...)
	wantCells(t, what+": Last", v.Last(), was.last...)
	if !slices.Equal(v.Heads(), was.heads) || v.Len() != was.len {
		t.Errorf("%s: Heads: %x, Len: %d; want %x, %d", what, v.Heads(), v.Len(), was.heads, was.len)
	}
}

// ready tells those of entries that aren't taken and whose parents are.
func ready(l, taken []api.Entry) []api.Entry {
	out := []api.Entry{}
	for _, x := range l {
		if !in(taken, x.ID) && !slices.ContainsFunc(x.Node.Parents, func(h api.Hash) bool { return !in(taken, h) }) {
			out = append(out, x)
		}
	}
	return out
}

// inSomeOrder tells the entries of a history in another order, each behind its parents: which of those that are ready comes next, choose tells.
func inSomeOrder(l []api.Entry, choose func(ready []api.Entry) api.Entry) []api.Entry {
	out := []api.Entry{}
	for len(out) < len(l) {
		out = append(out, choose(ready(l, out)))
	}
	return out
}

// orders tells a history in several orders: the one order; one in which the greatest hash comes first; the same, but for the least clock first; the newest ones first as far as can be; and some others.
func orders(r *rand.Rand, l []api.Entry) [][]api.Entry {
	hash := func(a, b api.Entry) int { return bytes.Compare(a.ID[:], b.ID[:]) }
	clock := func(a, b api.Entry) int { return a.Node.Clock - b.Node.Clock }
	out := [][]api.Entry{
		inSomeOrder(l, func(l []api.Entry) api.Entry { return slices.MinFunc(l, hash) }),
		inSomeOrder(l, func(l []api.Entry) api.Entry { return slices.MaxFunc(l, hash) }),
		inSomeOrder(l, func(l []api.Entry) api.Entry { return slices.MinFunc(l, clock) }),
		inSomeOrder(l, func(l []api.Entry) api.Entry { return slices.MaxFunc(l, clock) }),
	}
	for range 2 {
		out = append(out, inSomeOrder(l, func(l []api.Entry) api.Entry { return any1(r, l...) }))
	}
	return out
}

// allOrders tells a history in all orders in which it may be taken.
func allOrders(l []api.Entry) [][]api.Entry {
	out := [][]api.Entry{}
	var grow func(taken []api.Entry)
	grow = func(taken []api.Entry) {
		if len(taken) == len(l) {
			out = append(out, slices.Clone(taken))
		}
		for _, x := range ready(l, taken) {
			grow(append(slices.Clone(taken), x))
		}
	}
	grow(nil)
	return out
}

// chance makes numbers that are the same at each run.
func chance() *rand.Rand { return rand.New(rand.NewPCG(24, 6)) }

func any1[T any](r *rand.Rand, l ...T) T { return l[r.IntN(len(l))] }

// number tells a hash by a number: those of greater numbers are greater, and none is the zero hash.
func number(n int) api.Hash { return api.Hash{0, byte(n >> 8), byte(n), 1} }

// names are keys, some of which begin others, or are no text; oftenest one.
func names() []string {
	return []string{"", "k", "k\x00", "kk", "K", "\xff", "é", "k", "k", "k", "k", "k", "k"}
}

// soil is what histories grow on: the keys of which they speak, and how many operations a transaction has at most.
type soil struct {
	r    *rand.Rand
	keys []string
	most int
}

// someOp tells the next operation of a transaction behind those ahead: the entries are those that it may name.
func (s soil) someOp(own api.Hash, ahead []api.Op, l []api.Entry) api.Op {
	r := s.r
	kind := any1(r, api.OpPut, api.OpPut, api.OpClear, api.OpAdd, api.OpAdd, api.OpAdd, api.OpRemove, api.OpRemove, api.OpWipe, api.OpIncr, api.OpIncr, api.OpZero, api.OpInsert, api.OpInsert, api.OpInsert, api.OpInsert, api.OpDelete, api.OpDelete)
	o := api.Op{Kind: kind, Key: any1(r, s.keys...)}
	switch kind {
	case api.OpPut, api.OpInsert:
		o.Text = any1(r, "", "a", "b", "\xff\x00", fmt.Sprint(r.IntN(1000)))
	case api.OpAdd, api.OpRemove:
		o.Text = any1(r, "", "a", "a\x00", "b", "c", "\xff")
	case api.OpIncr:
		o.N = any1(r, 0, 1, -1, 1, -1, 2, 64, -65, math.MaxInt64, math.MinInt64, int64(r.Uint64()))
	}
	if kind == api.OpInsert || kind == api.OpDelete {
		o.At = someAt(r, o, own, ahead, l)
	}
	return o
}

// someAt tells an At that an operation may have.
func someAt(r *rand.Rand, o api.Op, own api.Hash, ahead []api.Op, l []api.Entry) api.Ident {
	may := ofKey(ahead, o.Key, api.Hash{})
	if o.Kind == api.OpInsert {
		may = append(may, api.Ident{}, api.Ident{})
	}
	for _, x := range l {
		may = append(may, ofKey(x.Node.Ops, o.Key, x.ID)...)
	}
	if len(may) == 0 || r.IntN(8) == 0 { // such as name an item seldom
		may = []api.Ident{{Node: own, Op: 1 + r.IntN(5)}, {Node: number(9999), Op: 1}}
		for _, x := range l {
			may = append(may, api.Ident{Node: x.ID, Op: any1(r, 1, 2, 3, 7, api.MaxOps)})
		}
	}
	return any1(r, may...)
}

// ofKey tells the names of those operations that insert under a key.
func ofKey(ops []api.Op, key string, h api.Hash) []api.Ident {
	out := []api.Ident{}
	for i, o := range ops {
		if o.Kind == api.OpInsert && o.Key == key {
			out = append(out, api.Ident{Node: h, Op: i + 1})
		}
	}
	return out
}

// upTo tells the entries of a closed list that are of some hashes, or that these have seen.
func upTo(l []api.Entry, heads []api.Hash) []api.Entry {
	known := slices.Clone(heads)
	for i := 0; i < len(known); i++ {
		for _, h := range find(l, known[i]).Node.Parents {
			if !slices.Contains(known, h) {
				known = append(known, h)
			}
		}
	}
	return slices.DeleteFunc(slices.Clone(l), func(x api.Entry) bool { return !slices.Contains(known, x.ID) })
}

// grown tells a history with so many more; their hashes are in no order.
func (s soil) grown(l []api.Entry, n int) []api.Entry {
	l = slices.Clone(l)
	for _, h := range s.r.Perm(1000 + n) {
		if n == 0 {
			break
		}
		if id := any1(s.r, number(h), number(h), number(h), api.Hash{}); !in(l, id) { // hashes are taken as they are told: the zero one, too
			l = append(l, s.someEntry(id, l))
			n--
		}
	}
	return l
}

// someEntry tells one of a hash that may stand behind a history.
func (s soil) someEntry(h api.Hash, l []api.Entry) api.Entry {
	r, parents := s.r, []api.Hash{}
	for range any1(r, 0, 1, 1, 2, 2, 3) {
		if len(l) > 0 {
			parents = append(parents, l[max(0, len(l)-1-r.IntN(any1(r, 3, 20)))].ID)
		}
	}
	ops := []api.Op{}
	known := upTo(l, parents)
	for range r.IntN(s.most + 1) {
		ops = append(ops, s.someOp(h, ops, any1(r, known, known, known, l)))
	}
	x := behind(h, l, parents, ops...)
	x.Node.Author = 1 + r.IntN(api.MaxReplicas)
	return mayBe(x)
}

// mayBe tells an entry without such operations as may not be: an At of the zero hash names its own transaction.
func mayBe(x api.Entry) api.Entry {
	ops := []api.Op{}
	for _, o := range x.Node.Ops {
		if o.At.Op == 0 || o.At.Node != (api.Hash{}) || slices.Contains(ofKey(ops, o.Key, api.Hash{}), o.At) {
			ops = append(ops, o)
		}
	}
	x.Node.Ops = ops
	return x
}

// showAll tells entries for a failure's message.
func showAll(l []api.Entry) string {
	s := []string{}
	for _, x := range l {
		s = append(s, fmt.Sprintf("%x of %x, %d:", x.ID[:3], x.Node.Parents, x.Node.Clock))
		for _, o := range x.Node.Ops {
			s = append(s, fmt.Sprintf("(%d %.20q %.20q %d %x:%d)", o.Kind, o.Key, o.Text, o.N, o.At.Node[:3], o.At.Op))
		}
		s = append(s, ";")
	}
	return strings.Join(s, " ")
}

// showCells tells cells for a failure's message, showItems items.
func showCells(l []api.Cell) string {
	s := []string{}
	for _, c := range l {
		s = append(s, fmt.Sprintf("%d %.20q: %.40x", c.Kind, c.Key, c.Value))
	}
	return strings.Join(s, "; ")
}

func showItems(l []api.Item) string {
	s := []string{}
	for _, x := range l {
		s = append(s, fmt.Sprintf("%x:%d %.20q", x.ID.Node[:3], x.ID.Op, x.Text))
	}
	return strings.Join(s, "; ")
}
