package why_test

import (
	"math"
	"slices"
	"strconv"
	"strings"
	"testing"

	"pleach/api"
	"pleach/past"
	"pleach/why"
)

func put(key, text string) api.Op { return api.Op{Kind: api.OpPut, Key: key, Text: text} }

func reset(key string) api.Op { return api.Op{Kind: api.OpClear, Key: key} }

func add(key, text string) api.Op { return api.Op{Kind: api.OpAdd, Key: key, Text: text} }

func remove(key, text string) api.Op { return api.Op{Kind: api.OpRemove, Key: key, Text: text} }

func wipe(key string) api.Op { return api.Op{Kind: api.OpWipe, Key: key} }

func incr(key string, n int64) api.Op { return api.Op{Kind: api.OpIncr, Key: key, N: n} }

func zero(key string) api.Op { return api.Op{Kind: api.OpZero, Key: key} }

// ins lays an item behind another one, or, without an At, at the beginning.
func ins(key, text string, at ...api.Ident) api.Op {
	o := api.Op{Kind: api.OpInsert, Key: key, Text: text}
	if len(at) > 0 {
		o.At = at[0]
	}
	return o
}

func del(key string, at api.Ident) api.Op { return api.Op{Kind: api.OpDelete, Key: key, At: at} }

// id names an operation of a transaction, self one of the transaction itself.
func id(name byte, n int) api.Ident { return api.Ident{Node: api.Hash{name}, Op: n} }

func self(n int) api.Ident { return api.Ident{Op: n} }

// one is a transaction: a letter, which is its hash, and tells its author, 1 of a and i, 2 of b and j; those of its parents; what it does.
type one struct {
	name    byte
	parents string
	ops     []api.Op
}

func tx(name byte, parents string, ops ...api.Op) one { return one{name, parents, ops} }

func authorOf(name byte) int { return 1 + int(name-'a')%api.MaxReplicas }

// letters tells hashes.
func letters(s string) []api.Hash {
	l := []api.Hash{}
	for _, name := range []byte(s) {
		l = append(l, api.Hash{name})
	}
	return l
}

// entries tells transactions, parents ahead, as entries.
func entries(all ...one) []api.Entry {
	l := []api.Entry{}
	for _, x := range all {
		y := behind(api.Hash{x.name}, l, letters(x.parents), x.ops...)
		y.Node.Author = authorOf(x.name)
		l = append(l, y)
	}
	return l
}

// pastOf tells the history of entries.
func pastOf(t *testing.T, l []api.Entry) *past.Past {
	t.Helper()
	p, e, at := past.Of(l)
	if e != api.OK {
		t.Fatalf("Of(%.2000s): %d, %d", showAll(l), e, at)
	}
	return p
}

// pastAt tells a history at heads.
func pastAt(t *testing.T, p *past.Past, heads []api.Hash) *past.Past {
	t.Helper()
	q, e := p.At(heads)
	if e != api.OK {
		t.Fatalf("At(%x): %d", heads, e)
	}
	return q
}

// of tells the history of transactions.
func of(t *testing.T, all ...one) *past.Past {
	t.Helper()
	return pastOf(t, entries(all...))
}

// ident reads a name: a letter, and a number.
func ident(s string) api.Ident {
	n, err := strconv.Atoi(s[1:])
	if err != nil {
		panic(err)
	}
	return id(s[0], n)
}

// marks reads such as are written as the chapter's examples are, with - behind what is undone: "b1 c1", "a1-b1-c1 a2-b1".
func marks(s string) []why.Mark {
	l := []why.Mark{}
	for _, word := range strings.Fields(s) {
		all := strings.Split(word, "-")
		m := why.Mark{Of: ident(all[0]), Author: authorOf(all[0][0])}
		for _, by := range all[1:] {
			m.By = append(m.By, ident(by))
		}
		l = append(l, m)
	}
	return l
}

func sameMark(a, b why.Mark) bool {
	return a.Of == b.Of && a.Author == b.Author && slices.Equal(a.By, b.By)
}

// wantMarks fails, if marks are others, or not in this order.
func wantMarks(t *testing.T, what string, got, want []why.Mark) {
	t.Helper()
	if !slices.EqualFunc(got, want, sameMark) {
		t.Errorf("%s: %.2000s; want %.2000s", what, show(got), show(want))
	}
}

// wantCell fails, if of a cell others are told as makers, or as undone.
func wantCell(t *testing.T, what string, p *past.Past, kind int, key, makers, undone string) {
	t.Helper()
	wantMarks(t, what+": Makers", why.Makers(p, kind, key), marks(makers))
	wantMarks(t, what+": Undone", why.Undone(p, kind, key), marks(undone))
	if got, want := why.Authors(p, kind, key), authors(marks(makers)); !slices.Equal(got, want) {
		t.Errorf("%s: Authors: %d; want %d", what, got, want)
	}
}

// wantLacks fails, if others are lacking at heads, or another error is told.
func wantLacks(t *testing.T, p *past.Past, heads string, kind int, want string, e api.Errno) {
	t.Helper()
	l, got := why.Lacks(p, letters(heads), kind, "k")
	if got != e {
		t.Errorf("Lacks at %q of %d: %d; want %d", heads, kind, got, e)
	}
	wantMarks(t, "Lacks at "+heads, l, marks(want))
}

// wantAlone fails, if the history of a transaction alone hasn't just these.
func wantAlone(t *testing.T, p *past.Past, h api.Hash, want string) {
	t.Helper()
	q, e := why.Alone(p, h)
	if e != api.OK || q == nil {
		t.Fatalf("Alone(%x): %d", h[:3], e)
	}
	got := []api.Hash{}
	for _, x := range q.All() {
		got = append(got, x.ID)
	}
	if !slices.Equal(got, letters(want)) {
		t.Errorf("Alone(%x): %x; want %s", h[:3], got, want)
	}
}

// noKinds are such as are no kind of cell.
func noKinds() []int { return []int{api.CellNone, 5, 6, -1, -4, 257, math.MaxInt, math.MinInt} }

// kinds are those of cells.
func kinds() []int {
	return []int{api.CellRegister, api.CellSet, api.CellCounter, api.CellList}
}

// example is the first history of the chapter's examples.
func example(t *testing.T) *past.Past {
	t.Helper()
	return of(t, tx('a', "", put("k", "1")), tx('b', "a", put("k", "2")), tx('c', "a", put("k", "3")))
}

// P25.1: the chapter's examples.
func TestExamples(t *testing.T) {
	wantCell(t, "puts", example(t), api.CellRegister, "k", "b1 c1", "a1-b1-c1")
	wantCell(t, "one transaction", of(t, tx('a', "", put("k", "1"), put("k", "2"), reset("k"))), api.CellRegister, "k", "", "a1-a2-a3 a2-a3")
	wantCell(t, "a set", of(t, tx('a', "", add("k", "x"), add("k", "y")), tx('b', "a", remove("k", "x")), tx('c', "", wipe("k"))), api.CellSet, "k", "a2", "a1-b1")
	wantCell(t, "a counter", of(t, tx('a', "", incr("k", 5)), tx('b', "a", zero("k"), incr("k", 0))), api.CellCounter, "k", "b2", "a1-b1")
	wantCell(t, "a list", of(t, tx('a', "", ins("k", "x")), tx('b', "a", ins("k", "y", id('a', 1)), del("k", id('a', 1))), tx('c', "", ins("k", "z", id('a', 1)))), api.CellList, "k", "b1", "a1-b2")
}

// P25.1 to P25.3: what the chapter tells of the first one.
func TestFirstExample(t *testing.T) {
	p := example(t)
	if got := why.Authors(p, api.CellRegister, "k"); !slices.Equal(got, []int{2, 3}) {
		t.Errorf("Authors: %d", got)
	}
	wantLacks(t, p, "b", api.CellRegister, "c1", api.OK)
	wantLacks(t, p, "a", api.CellRegister, "b1 c1", api.OK)
	wantLacks(t, p, "a", 0, "", api.ErrKind)
	wantLacks(t, p, "x", api.CellRegister, "", api.ErrAbsent)
	wantAlone(t, p, api.Hash{'b'}, "ab")
	wantCell(t, "the kind 5", p, 5, "k", "", "")
}

// P25.1: of a history without entries nothing is told; Lacks at no heads is OK, at whichever hash ErrAbsent.
func TestNothing(t *testing.T) {
	p := of(t)
	for _, kind := range slices.Concat(kinds(), noKinds()) {
		wantCell(t, "no entries", p, kind, "k", "", "")
		wantCell(t, "no operations", of(t, tx('a', ""), tx('b', "a")), kind, "k", "", "")
		wantCell(t, "another key", of(t, tx('a', "", put("j", "1"), add("", "1"), incr("kk", 1), ins("K", "1"))), kind, "k", "", "")
	}
	for _, kind := range kinds() {
		wantLacks(t, p, "", kind, "", api.OK)
		wantLacks(t, p, "a", kind, "", api.ErrAbsent)
	}
	if q, e := why.Alone(p, api.Hash{}); q != nil || e != api.ErrAbsent {
		t.Errorf("Alone of nothing: %d", e)
	}
}

// allKinds tells a history that speaks of the same key in all kinds.
func allKinds(t *testing.T) *past.Past {
	t.Helper()
	return of(t,
		tx('a', "", put("k", "x"), add("k", "x"), incr("k", 1), ins("k", "x"), put("k", "y"), add("k", "y"), incr("k", 2), ins("k", "y", self(4))),
		tx('b', "a", remove("k", "x"), zero("k"), del("k", id('a', 4))),
		tx('c', "a", reset("k"), wipe("k"), incr("k", 4), ins("k", "z", id('a', 8))),
	)
}

// P25.1: operations of unlike kinds of cells under one key have nothing to do with one another.
func TestKindsOfAKey(t *testing.T) {
	p := allKinds(t)
	wantCell(t, "register", p, api.CellRegister, "k", "", "a1-a5-c1 a5-c1")
	wantCell(t, "set", p, api.CellSet, "k", "", "a2-b1-c2 a6-c2")
	wantCell(t, "counter", p, api.CellCounter, "k", "c3", "a3-b2 a7-b2")
	wantCell(t, "list", p, api.CellList, "k", "a8 c4", "a4-b3")
	for _, kind := range noKinds() {
		wantCell(t, "no kind", p, kind, "k", "", "")
	}
}

// P25.1: keys are unlike at any byte, and undo nothing of one another.
func TestKeys(t *testing.T) {
	p := of(t, tx('a', "", put("k", "1"), put("k\x00", "2"), add("", "1"), incr("kk", 1), ins("k", "1")),
		tx('b', "a", reset("kk"), put("K", "3"), wipe("k"), zero("k"), del("kk", id('a', 5)), remove("k\x00", "1")))
	wantCell(t, "k", p, api.CellRegister, "k", "a1", "")
	wantCell(t, "k and a zero byte", p, api.CellRegister, "k\x00", "a2", "")
	wantCell(t, "K", p, api.CellRegister, "K", "b2", "")
	wantCell(t, "no letter", p, api.CellSet, "", "a3", "")
	wantCell(t, "kk", p, api.CellCounter, "kk", "a4", "")
	wantCell(t, "the list k", p, api.CellList, "k", "a5", "")
}

// P25.1: a put is undone by puts and clears that have seen it, those of its own transaction behind it among them, the same text's as well.
func TestRegisters(t *testing.T) {
	wantCell(t, "beside one another", of(t, tx('a', "", put("k", "1")), tx('b', "", put("k", "1")), tx('c', "", reset("k"))), api.CellRegister, "k", "a1 b1", "")
	wantCell(t, "in a row", of(t, tx('c', "", put("k", "1")), tx('b', "c", put("k", "1")), tx('a', "b", put("k", "1"))), api.CellRegister, "k", "a1", "c1-b1-a1 b1-a1")
	wantCell(t, "a clear ahead", of(t, tx('a', "", reset("k"), put("k", "1"))), api.CellRegister, "k", "a2", "")
	p := of(t, tx('a', "", put("k", "1"), reset("k"), put("k", "2")), tx('b', "a"), tx('c', "b", reset("k"), reset("k")), tx('d', "a", put("k", "3")))
	wantCell(t, "by several", p, api.CellRegister, "k", "d1", "a1-a2-a3-c1-c2-d1 a3-c1-c2-d1")
}

// P25.1: an add is undone by removes of its own text and by wipes, in the one order of all of them.
func TestSets(t *testing.T) {
	p := of(t, tx('a', "", wipe("k"), remove("k", "x"), add("k", "x"), remove("k", "y"), add("k", "x"), add("k", "")),
		tx('b', "a", wipe("k"), remove("k", "x"), remove("k", ""), wipe("k"), add("k", "x")),
		tx('c', "a", remove("k", "x"), remove("k", "xx"), wipe("j")),
		tx('d', "", remove("k", "x"), wipe("k")))
	wantCell(t, "by both, in turn", p, api.CellSet, "k", "b5", "a3-b1-b2-b4-c1 a5-b1-b2-b4-c1 a6-b1-b3-b4")
	p = of(t, tx('a', "", add("k", "x"), remove("k", "x"), wipe("k"), remove("k", "x"), add("k", "x")))
	wantCell(t, "in one transaction", p, api.CellSet, "k", "a5", "a1-a2-a3-a4")
	wantCell(t, "another text", of(t, tx('a', "", add("k", "x")), tx('b', "a", remove("k", "y"))), api.CellSet, "k", "a1", "")
	wantCell(t, "another text that an empty one is", of(t, tx('a', "", add("k", "x"), add("k", "")), tx('b', "a", remove("k", ""))), api.CellSet, "k", "a1", "a2-b1")
	wantCell(t, "the same twice", of(t, tx('a', "", add("k", "x"), add("k", "x")), tx('b', "a", add("k", "x"))), api.CellSet, "k", "a1 a2 b1", "")
}

// P25.1: an incr is undone by zeros, by nothing else; an incr of 0 makes as well.
func TestCounters(t *testing.T) {
	p := of(t, tx('a', "", zero("k"), incr("k", 0), incr("k", 5), incr("k", -5), zero("k"), incr("k", 0)), tx('b', "a", incr("k", math.MinInt64)), tx('c', "a", zero("k")))
	wantCell(t, "zeros", p, api.CellCounter, "k", "b1", "a2-a5-c1 a3-a5-c1 a4-a5-c1 a6-c1")
	wantCell(t, "no zeros", of(t, tx('a', "", incr("k", 0)), tx('b', "a", incr("k", 0))), api.CellCounter, "k", "a1 b1", "")
}

// P25.1: inserts that are no items make nothing, and are not undone; those behind one that is no item are none either.
func TestNoItems(t *testing.T) {
	p := of(t, tx('a', "", ins("k", "x")), tx('b', "", ins("k", "y", id('a', 1)), ins("k", "z", self(1)), ins("k", "w")),
		tx('c', "ab", ins("k", "v", id('b', 2)), del("k", id('b', 1)), ins("k", "u", id('b', 3)), ins("k", "t", id('x', 1)), ins("j", "s"), ins("k", "r", id('a', 7))))
	wantCell(t, "no items", p, api.CellList, "k", "a1 b3 c3", "")
	q := of(t, tx('a', "", ins("j", "x"), ins("k", "z", id('a', 1))), tx('b', "a", ins("k", "y", id('a', 1))))
	wantCell(t, "behind another list's item", q, api.CellList, "k", "", "")
	wantCell(t, "the other list", q, api.CellList, "j", "a1", "")
}

// P25.1: an insert is undone by deletes that have seen it and name it, by an At with a zero Node, or by their own transaction's hash, too.
func TestDeletes(t *testing.T) {
	p := of(t, tx('a', "", ins("k", "x"), ins("k", "y", self(1)), del("k", self(2)), del("k", id('a', 1)), del("k", self(2))),
		tx('b', "a", del("k", id('a', 2)), ins("k", "z"), del("k", self(2))),
		tx('c', "", del("k", id('a', 1)), ins("k", "v")))
	wantCell(t, "by several", p, api.CellList, "k", "c2", "a1-a4 a2-a3-a5-b1 b2-b3")
	wantCell(t, "it has not seen it yet", of(t, tx('a', "", del("k", id('a', 2)), ins("k", "x"))), api.CellList, "k", "a2", "")
	wantCell(t, "it has not seen it", of(t, tx('a', "", del("k", id('b', 1))), tx('b', "", ins("k", "x"))), api.CellList, "k", "b1", "")
	wantCell(t, "another number", of(t, tx('a', "", ins("k", "x"), ins("k", "y")), tx('b', "a", del("k", id('a', 3)))), api.CellList, "k", "a1 a2", "")
	wantCell(t, "another list's delete", of(t, tx('a', "", ins("k", "x")), tx('b', "a", del("j", id('a', 1)))), api.CellList, "k", "a1", "")
}

// P25.1: an At with a zero Node names an operation of its own transaction, also where a transaction has the zero hash.
func TestZeroHash(t *testing.T) {
	l := []api.Entry{behind(api.Hash{}, nil, nil, ins("k", "x"), ins("k", "y", self(1)))}
	l = append(l, behind(api.Hash{'a'}, l, []api.Hash{{}}, ins("k", "z"), del("k", self(1))))
	p := pastOf(t, l)
	want := []why.Mark{{Of: api.Ident{Op: 1}, Author: 1}, {Of: api.Ident{Op: 2}, Author: 1}}
	wantMarks(t, "Makers", why.Makers(p, api.CellList, "k"), want)
	wantMarks(t, "Undone", why.Undone(p, api.CellList, "k"), marks("a1-a2"))
	if got, e := why.Lacks(p, []api.Hash{{}}, api.CellList, "k"); e != api.OK || len(got) != 0 {
		t.Errorf("Lacks: %s, %d", show(got), e)
	}
}

// P25.1: marks stand in the one order, not in that of hashes, nor of clocks, nor of a list.
func TestInOrder(t *testing.T) {
	p := of(t, tx('d', "", ins("k", "1"), add("k", "z")), tx('c', "d", ins("k", "2"), add("k", "a")), tx('b', "c", ins("k", "3", id('d', 1))), tx('e', "", add("k", "0"), ins("k", "4")), tx('f', "e", add("k", "b")))
	wantCell(t, "a list", p, api.CellList, "k", "d1 c1 b1 e2", "")
	wantCell(t, "a set", p, api.CellSet, "k", "d2 c2 e1 f1", "")
	p = of(t, tx('e', "", incr("k", 1)), tx('d', "e", zero("k")), tx('a', "e"), tx('c', "a", zero("k")), tx('b', "d", zero("k")))
	wantCell(t, "what undoes", p, api.CellCounter, "k", "", "e1-c1-d1-b1")
}

// P25.1: authors rise, each once, those of makers alone.
func TestAuthors(t *testing.T) {
	l := entries(tx('a', "", add("k", "1"), add("k", "2")), tx('b', "", add("k", "3")), tx('c', "b", add("k", "4"), remove("k", "3")), tx('d', "", add("k", "5")), tx('e', "", remove("k", "1"), put("k", "6")))
	for i, author := range []int{8, 7, 3, 3, 1} {
		l[i].Node.Author = author
	}
	p := pastOf(t, l)
	if got := why.Authors(p, api.CellSet, "k"); !slices.Equal(got, []int{3, 8}) {
		t.Errorf("Authors: %d", got)
	}
	if got := why.Authors(p, api.CellRegister, "k"); !slices.Equal(got, []int{1}) {
		t.Errorf("Authors of the register: %d", got)
	}
	for _, kind := range append(noKinds(), api.CellList) {
		if got := why.Authors(p, kind, "k"); len(got) != 0 {
			t.Errorf("Authors of the kind %d: %d", kind, got)
		}
	}
}

// P25.2: Alone has one and all that it has seen, whatever stands beside it; of a hash that is no entry's there is none.
func TestAlone(t *testing.T) {
	p := of(t, tx('b', "", put("k", "1")), tx('a', ""), tx('d', "ab", put("k", "2")), tx('c', "b", put("k", "3")), tx('e', "cd", put("k", "4")), tx('f', "d"))
	for h, want := range map[byte]string{'a': "a", 'b': "b", 'c': "bc", 'd': "abd", 'e': "abcde", 'f': "abdf"} {
		wantAlone(t, p, api.Hash{h}, want)
	}
	q, _ := why.Alone(p, api.Hash{'d'})
	wantCell(t, "alone", q, api.CellRegister, "k", "d1", "b1-d1")
	wantCell(t, "as before", p, api.CellRegister, "k", "e1", "b1-c1-d1-e1 c1-e1 d1-e1")
	for _, h := range []api.Hash{{}, {'g'}, {'a', 1}, {31: 'a'}} {
		if q, e := why.Alone(p, h); q != nil || e != api.ErrAbsent {
			t.Errorf("Alone(%x): %d", h, e)
		}
	}
	if q, e := why.Alone(q, api.Hash{'c'}); q != nil || e != api.ErrAbsent {
		t.Errorf("Alone of one that the earlier history hasn't: %d", e)
	}
}

// P25.3: Lacks tells those makers that aren't there at heads, however often and in whatever order these stand.
func TestLacks(t *testing.T) {
	p := of(t, tx('a', "", add("k", "1"), add("k", "0")), tx('b', "a", add("k", "2"), remove("k", "0")), tx('c', "a", add("k", "3")), tx('d', "bc", add("k", "4"), remove("k", "2")), tx('e', "", add("k", "5")))
	for heads, want := range map[string]string{"": "a1 c1 d1 e1", "a": "c1 d1 e1", "aaa": "c1 d1 e1", "b": "c1 d1 e1", "c": "d1 e1", "ca": "d1 e1", "bc": "d1 e1", "ec": "d1", "ceec": "d1", "d": "e1", "de": "", "edabc": ""} {
		wantLacks(t, p, heads, api.CellSet, want, api.OK)
	}
	wantLacks(t, p, "a", api.CellRegister, "", api.OK)
}

// P25.3: ErrKind comes ahead of ErrAbsent; beside both nothing is told.
func TestLacksErrors(t *testing.T) {
	p := allKinds(t)
	for _, kind := range noKinds() {
		for _, heads := range []string{"", "a", "x", "abc", "ax"} {
			wantLacks(t, p, heads, kind, "", api.ErrKind)
		}
	}
	for _, kind := range kinds() {
		for _, heads := range []string{"x", "ax", "xa", "abcx", "axb", "xx"} {
			wantLacks(t, p, heads, kind, "", api.ErrAbsent)
		}
	}
	for _, heads := range [][]api.Hash{{{}}, {{'a'}, {'a', 0, 1}}} {
		if l, e := why.Lacks(p, heads, api.CellList, "k"); l != nil || e != api.ErrAbsent {
			t.Errorf("Lacks(%x): %s, %d", heads, show(l), e)
		}
	}
	if l, e := why.Lacks(p, letters("x"), 0, "none"); l != nil || e != api.ErrKind {
		t.Errorf("Lacks: %s, %d", show(l), e)
	}
}

// P25.1: in every example of the whole that the document tells, whose what is shown is.
func TestExamplesOfTheWhole(t *testing.T) {
	wantCell(t, "1: a", of(t, tx('a', "", put("k", "1"))), api.CellRegister, "k", "a1", "")
	p := of(t, tx('a', "", put("k", "1")), tx('b', "a", put("k", "2")), tx('c', "a", put("k", "3")), tx('d', "bc", put("k", "4")))
	wantCell(t, "2", p, api.CellRegister, "k", "d1", "a1-b1-c1-d1 b1-d1 c1-d1")
	p = of(t, tx('a', "", incr("n", 5)), tx('b', "", incr("n", 7)), tx('c', "a", zero("n")))
	wantCell(t, "5", p, api.CellCounter, "n", "b1", "a1-c1")
}
