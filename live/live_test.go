package live_test

import (
	"slices"
	"strings"
	"testing"

	"pleach/api"
	"pleach/live"
)

// raw tells an entry by hand.
func raw(h api.Hash, clock int, parents []api.Hash, ops ...api.Op) api.Entry {
	return api.Entry{ID: h, Node: api.Node{Author: 1, Clock: clock, Parents: parents, Ops: ops}}
}

// P24.1, P24.2, P24.3: one that has taken nothing shows nothing, has changed nothing, and so does its copy.
func TestNothing(t *testing.T) {
	v := live.New()
	for _, v := range []*live.Live{v, v.Copy()} {
		wantShown(t, "nothing", v, nil)
		wantCells(t, "Last", v.Last())
		if v.Len() != 0 || len(v.Heads()) != 0 {
			t.Errorf("Len: %d, Heads: %x", v.Len(), v.Heads())
		}
	}
	takes(t, v, raw(api.Hash{'a'}, 2, letters("b")), api.ErrAbsent)
	takes(t, v, api.Entry{}, api.ErrAuthor)
	wantShown(t, "nothing, and refused", v, nil)
	wantCells(t, "Last", v.Last())
}

// P24.1 to P24.4: the chapter's examples 1, 2, 3 and 5.
func TestExample(t *testing.T) {
	v, x := live.New(), entries(tx('a', "", put("k", "1")), tx('b', "a", put("k", "2"), add("k", "x")), tx('c', "b", reset("k")))
	takes(t, v, x[0], api.OK)
	wantCells(t, "a", v.Cells(), cell(1, "k", "01 01 31"))
	wantCells(t, "Last of a", v.Last(), cell(1, "k", "01 01 31"))
	for _, again := range []api.Entry{x[0], raw(api.Hash{'a'}, 1, nil), raw(api.Hash{'a'}, 2, letters("a"), put("k", "9")), raw(api.Hash{'a'}, 7, letters("z"))} {
		takes(t, v, again, api.ErrState)
		wantCells(t, "Last as it was", v.Last(), cell(1, "k", "01 01 31"))
	}
	takes(t, v, x[2], api.ErrAbsent)
	takes(t, v, raw(api.Hash{'b'}, 3, letters("a"), x[1].Node.Ops...), api.ErrClock)
	takes(t, v, api.Entry{}, api.ErrAuthor)
	takes(t, v, x[1], api.OK)
	if l := v.Register("k"); !slices.Equal(l, []string{"2"}) {
		t.Errorf("Register: %q", l)
	}
	wantCells(t, "Last of b", v.Last(), cell(1, "k", "01 01 32"), cell(2, "k", "01 01 78"))
	y := v.Copy()
	takes(t, v, x[2], api.OK)
	wantCells(t, "Last of c", v.Last(), cell(1, "k", ""))
	wantCells(t, "c", v.Cells(), cell(2, "k", "01 01 78"))
	if h := v.Heads(); !slices.Equal(h, letters("c")) {
		t.Errorf("Heads: %x", h)
	}
	takes(t, y, raw(api.Hash{'c'}, 3, letters("b"), put("k", "3")), api.OK)
	wantCells(t, "the copy", y.Cells(), cell(1, "k", "01 01 33"), cell(2, "k", "01 01 78"))
	wantCells(t, "the first one", v.Cells(), cell(2, "k", "01 01 78"))
}

// P24.2, P24.3: the chapter's example 4, in both orders.
func TestExampleTwo(t *testing.T) {
	x := entries(tx('a', "", put("k", "1")), tx('b', "", put("k", "2")))
	for _, l := range allOrders(x) {
		v := of(t, l...)
		if l := v.Register("k"); !slices.Equal(l, []string{"1", "2"}) {
			t.Errorf("Register: %q", l)
		}
		wantCells(t, "Last", v.Last(), cell(1, "k", "02 01 31 01 32"))
		if h := v.Heads(); !slices.Equal(h, letters("ab")) {
			t.Errorf("Heads: %x", h)
		}
	}
}

// refusal is an entry that is refused, and why.
type refusal struct {
	what string
	x    api.Entry
	want api.Errno
}

// base is a history with something of each kind: a and c have no parents, b has a, d has b and c.
func base() []api.Entry {
	return entries(
		tx('c', "", put("k", "1"), add("k", "a"), incr("k", 5), ins("k", "x")),
		tx('a', "", put("k", "2"), add("k", "b"), incr("k", 2), ins("k", "y")),
		tx('b', "a", ins("k", "z", id('a', 4)), reset("l"), add("l", "b")),
		tx('d', "bc", put("k", "3"), remove("k", "a"), ins("k", "w", id('c', 4))))
}

// mayNotBe are transactions that may not be, each with node.Check's error.
func mayNotBe() []refusal {
	of := func(ops ...api.Op) api.Entry { return raw(api.Hash{'z'}, 1, nil, ops...) }
	by := func(author int) api.Entry {
		x := raw(api.Hash{'z'}, 0, nil, api.Op{})
		x.Node.Author = author
		return x
	}
	l := []refusal{
		{"zero", api.Entry{}, api.ErrAuthor},
		{"author 9", by(9), api.ErrAuthor},
		{"author -1", by(-1), api.ErrAuthor},
		{"clock 0", raw(api.Hash{'z'}, 0, nil), api.ErrClock},
		{"clock -1", raw(api.Hash{'z'}, -1, letters("d")), api.ErrClock},
		{"clock 4097", raw(api.Hash{'z'}, api.MaxNodes+1, letters("d")), api.ErrClock},
		{"clock 1 with parents", raw(api.Hash{'z'}, 1, letters("d")), api.ErrClock},
		{"clock 2 without", raw(api.Hash{'z'}, 2, nil), api.ErrClock},
		{"parents that fall", raw(api.Hash{'z'}, 3, letters("cb"), api.Op{}), api.ErrParents},
		{"a parent twice", raw(api.Hash{'z'}, 3, letters("bb")), api.ErrParents},
		{"too many parents", raw(api.Hash{'z'}, 2, numbers(api.MaxParents+1)), api.ErrParents},
		{"too many operations", of(make([]api.Op, api.MaxOps+1)...), api.ErrMany},
		{"no operation", of(put("k", "9"), api.Op{}), api.ErrKind},
		{"kind 10", of(add("k", "9"), api.Op{Kind: 10, Key: "k"}), api.ErrKind},
		{"kind -1", of(api.Op{Kind: -1, Key: "k"}), api.ErrKind},
		{"a long key", of(put(strings.Repeat("k", api.MaxKey+1), "9")), api.ErrBytes},
		{"a long text", of(put("k", strings.Repeat("9", api.MaxText+1))), api.ErrBytes},
		{"a field too many", of(wipe("k"), api.Op{Kind: api.OpZero, Key: "k", N: 1}), api.ErrField},
		{"a delete of the beginning", of(del("k", api.Ident{})), api.ErrAt},
		{"behind itself", of(ins("k", "9", self(1))), api.ErrAt},
		{"behind what is no insert", of(put("k", "9"), ins("k", "9", self(1))), api.ErrAt},
		{"behind one of another key", of(ins("l", "9"), ins("k", "9", self(1))), api.ErrAt},
	}
	return l
}

// numbers are so many hashes, rising.
func numbers(n int) []api.Hash {
	l := []api.Hash{}
	for i := range n {
		l = append(l, number(i))
	}
	return l
}

// refused are entries that base refuses, each with the first error that applies.
func refused() []refusal {
	l := []refusal{
		{"the same", base()[1], api.ErrState},
		{"the same hash", raw(api.Hash{'d'}, 4, letters("d"), put("k", "9")), api.ErrState},
		{"the same hash, of no parents", raw(api.Hash{'d'}, 1, nil), api.ErrState},
		{"the same hash, of a parent that isn't there", raw(api.Hash{'b'}, 2, letters("x")), api.ErrState},
		{"the same hash, itself its parent", raw(api.Hash{'b'}, 3, letters("b")), api.ErrState},
		{"the same hash, a clock too great", raw(api.Hash{'b'}, 3, letters("a")), api.ErrState},
		{"no such parent", raw(api.Hash{'z'}, 2, letters("x")), api.ErrAbsent},
		{"no such parent beside one", raw(api.Hash{'z'}, 4, letters("dx")), api.ErrAbsent},
		{"no such parent ahead of one", raw(api.Hash{'z'}, 4, letters("Zd")), api.ErrAbsent},
		{"no such parent, near to one", raw(api.Hash{'z'}, 2, []api.Hash{{0: 'a', 31: 1}}), api.ErrAbsent},
		{"no zero hash", raw(api.Hash{'z'}, 2, []api.Hash{{}}), api.ErrAbsent},
		{"itself", raw(api.Hash{'z'}, 2, letters("z")), api.ErrAbsent},
		{"itself beside one", raw(api.Hash{'z'}, 4, letters("dz")), api.ErrAbsent},
		{"no such parent, and a clock too great", raw(api.Hash{'z'}, 9, letters("dx")), api.ErrAbsent},
		{"no such parent, and a clock too small", raw(api.Hash{'z'}, 2, letters("dx")), api.ErrAbsent},
		{"a clock too small", raw(api.Hash{'z'}, 3, letters("d"), put("k", "9")), api.ErrClock},
		{"a clock far too small", raw(api.Hash{'z'}, 2, letters("d")), api.ErrClock},
		{"a clock too great", raw(api.Hash{'z'}, 5, letters("d"), incr("k", 1)), api.ErrClock},
		{"the greatest clock", raw(api.Hash{'z'}, api.MaxNodes, letters("d")), api.ErrClock},
		{"a clock by the least of the parents", raw(api.Hash{'z'}, 2, letters("bc")), api.ErrClock},
		{"a clock by the sum of the parents", raw(api.Hash{'z'}, 4, letters("bc")), api.ErrClock},
	}
	for _, x := range mayNotBe() {
		l = append(l, x)
		x.x.ID = api.Hash{'b'} // taken already, which comes behind
		l = append(l, x)
		if len(x.x.Node.Parents) > 0 && x.want != api.ErrParents {
			x.x.ID, x.x.Node.Parents = api.Hash{'z'}, letters("xz") // which aren't there, which comes behind
			l = append(l, x)
		}
	}
	return l
}

// P24.1: what is refused, with the first error that applies; nothing has changed behind it, Last neither.
func TestRefused(t *testing.T) {
	l := base()
	v := of(t, l...)
	was := pictureOf(v)
	for _, x := range refused() {
		if e := v.Take(x.x); e != x.want {
			t.Errorf("%s: %d; want %d", x.what, e, x.want)
		}
		wantPicture(t, x.what, v, was)
	}
	wantShown(t, "refused", v, l)
	next := behind(api.Hash{'z'}, l, letters("cd"), put("k", "4"), ins("k", "v", id('b', 1)))
	wantTaken(t, "behind all that was refused", v, l, next)
}

// P24.1: what is refused in one state may be taken in another one: a parent that has come, a clock that is mended; and nothing waits.
func TestRefusedThenTaken(t *testing.T) {
	l := entries(tx('a', "", put("k", "1")), tx('b', "a", put("k", "2")), tx('c', "b", put("k", "3")))
	v := live.New()
	takes(t, v, l[2], api.ErrAbsent)
	takes(t, v, l[1], api.ErrAbsent)
	takes(t, v, l[0], api.OK)
	wantShown(t, "nothing waits", v, l[:1])
	takes(t, v, l[2], api.ErrAbsent)
	takes(t, v, raw(l[1].ID, 3, letters("a")), api.ErrClock)
	takes(t, v, raw(l[1].ID, 2, letters("b")), api.ErrAbsent)
	takes(t, v, raw(l[1].ID, 2, letters("a"), api.Op{}), api.ErrKind)
	takes(t, v, l[1], api.OK)
	wantShown(t, "nothing waits", v, l[:2])
	takes(t, v, l[2], api.OK)
	takes(t, v, l[2], api.ErrState)
	wantShown(t, "all", v, l)
}

// P24.1, R1: whatever is handed in, each call ends and is answered.
func TestWhatever(t *testing.T) {
	v := of(t, base()...)
	was := pictureOf(v)
	for _, author := range []int{-1 << 63, -1, 0, 9, 1<<63 - 1} {
		for _, clock := range []int{-1 << 63, -1, 0, 1, 3, 1<<63 - 1} {
			for _, kind := range kinds() {
				x := raw(api.Hash{}, clock, make([]api.Hash, 3), api.Op{Kind: kind, At: api.Ident{Op: clock}})
				x.Node.Author = author
				takes(t, v, x, api.ErrAuthor)
			}
		}
	}
	for _, kind := range []int{-1 << 63, -1, 0, 10, 1<<63 - 1} {
		takes(t, v, raw(api.Hash{'z'}, 1, nil, api.Op{Kind: kind}), api.ErrKind)
	}
	for _, n := range []int{-1 << 63, -1, 0, 2, api.MaxOps + 1, 1<<63 - 1} {
		takes(t, v, raw(api.Hash{'z'}, 1, nil, ins("k", "x", api.Ident{Op: 1}), ins("k", "x", api.Ident{Node: api.Hash{1}, Op: n})), api.ErrAt)
	}
	for _, key := range []string{"", "\xff\xfe", strings.Repeat("k", 1<<20)} {
		for _, kind := range kinds() {
			if c, is := v.Cell(kind, key); is || !sameCell(c, api.Cell{}) {
				t.Errorf("Cell(%d, %.9q): %v", kind, key, c)
			}
		}
		if len(v.Register(key))+len(v.Members(key))+len(v.Items(key)) != 0 || v.Count(key) != 0 {
			t.Errorf("%.9q shows something", key)
		}
	}
	wantPicture(t, "whatever", v, was)
}
