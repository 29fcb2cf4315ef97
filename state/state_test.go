package state_test

import (
	"bytes"
	"encoding/hex"
	"fmt"
	"math"
	"slices"
	"strings"
	"testing"

	"pleach/api"
	"pleach/past"
	"pleach/state"
)

func put(key, text string) api.Op { return api.Op{Kind: api.OpPut, Key: key, Text: text} }

func reset(key string) api.Op { return api.Op{Kind: api.OpClear, Key: key} }

func add(key, text string) api.Op { return api.Op{Kind: api.OpAdd, Key: key, Text: text} }

func remove(key, text string) api.Op { return api.Op{Kind: api.OpRemove, Key: key, Text: text} }

func wipe(key string) api.Op { return api.Op{Kind: api.OpWipe, Key: key} }

func incr(key string, n int64) api.Op { return api.Op{Kind: api.OpIncr, Key: key, N: n} }

func zero(key string) api.Op { return api.Op{Kind: api.OpZero, Key: key} }

// ins lays an item behind another one, or, without an At, at the beginning.
func ins(key, text string, at ...api.Ident) api.Op {
	o := api.Op{Kind: api.OpInsert, Key: key, Text: text}
	if len(at) > 0 {
		o.At = at[0]
	}
	return o
}

func del(key string, at api.Ident) api.Op { return api.Op{Kind: api.OpDelete, Key: key, At: at} }

// id names an operation of a transaction, self one of the transaction itself.
func id(name byte, n int) api.Ident { return api.Ident{Node: api.Hash{name}, Op: n} }

func self(n int) api.Ident { return api.Ident{Op: n} }

// one is a transaction: a letter, which is its hash; those of its parents; what it does.
type one struct {
	name    byte
	parents string
	ops     []api.Op
}

func tx(name byte, parents string, ops ...api.Op) one { return one{name, parents, ops} }

// letters tells hashes.
func letters(s string) []api.Hash {
	l := []api.Hash{}
	for _, name := range []byte(s) {
		l = append(l, api.Hash{name})
	}
	return l
}

// entries tells transactions, parents ahead, as entries.
func entries(all ...one) []api.Entry {
	l := []api.Entry{}
	for _, x := range all {
		l = append(l, behind(api.Hash{x.name}, l, letters(x.parents), x.ops...))
	}
	return l
}

// pastOf tells the history of entries.
func pastOf(t *testing.T, l []api.Entry) *past.Past {
	t.Helper()
	p, e, at := past.Of(l)
	if e != api.OK {
		t.Fatalf("Of(%.2000s): %d, %d", showAll(l), e, at)
	}
	return p
}

// pastAt tells a history at heads.
func pastAt(t *testing.T, p *past.Past, heads []api.Hash) *past.Past {
	t.Helper()
	q, e := p.At(heads)
	if e != api.OK {
		t.Fatalf("At(%x): %d", heads, e)
	}
	return q
}

// of tells what the history of transactions shows.
func of(t *testing.T, all ...one) *state.State {
	t.Helper()
	return state.Of(pastOf(t, entries(all...)))
}

// fromHex tells bytes that are written in base sixteen.
func fromHex(s string) []byte {
	b, err := hex.DecodeString(strings.ReplaceAll(s, " ", ""))
	if err != nil {
		panic(err)
	}
	return b
}

// cell tells one whose Value is written in base sixteen.
func cell(kind int, key, value string) api.Cell {
	return api.Cell{Kind: kind, Key: key, Value: fromHex(value)}
}

func sameCell(a, b api.Cell) bool {
	return a.Kind == b.Kind && a.Key == b.Key && bytes.Equal(a.Value, b.Value)
}

// wantCells fails, if cells are others, or not in this order.
func wantCells(t *testing.T, what string, got []api.Cell, want ...api.Cell) {
	t.Helper()
	if !slices.EqualFunc(got, want, sameCell) {
		t.Errorf("%s: %.3000s; want %.3000s", what, showCells(got), showCells(want))
	}
}

// kinds are those of cells, and such as are none.
func kinds() []int {
	return []int{api.CellRegister, api.CellSet, api.CellCounter, api.CellList, api.CellNone, 5, 6, -1, -4, 257, math.MaxInt, math.MinInt}
}

// wantTale fails, if of a key something else is told.
func wantTale(t *testing.T, what string, s *state.State, key string, want tale) {
	t.Helper()
	if got := s.Register(key); !slices.Equal(got, want.register) {
		t.Errorf("%s: Register(%.20q): %.200q; want %.200q", what, key, got, want.register)
	}
	if got := s.Members(key); !slices.Equal(got, want.set) {
		t.Errorf("%s: Members(%.20q): %.200q; want %.200q", what, key, got, want.set)
	}
	if got := s.Count(key); got != want.count {
		t.Errorf("%s: Count(%.20q): %d; want %d", what, key, got, want.count)
	}
	if got := s.Items(key); !slices.Equal(got, want.list) {
		t.Errorf("%s: Items(%.20q): %.200x; want %.200x", what, key, itemsBytes(got), itemsBytes(want.list))
	}
}

// wantShown fails, if a state tells something else than these tales, by whichever call.
func wantShown(t *testing.T, what string, s *state.State, all map[string]tale) {
	t.Helper()
	want := cellsOf(all)
	wantCells(t, what+": Cells", s.Cells(), want...)
	for _, key := range append(names(), "none") {
		wantTale(t, what, s, key, all[key])
	}
	for key, x := range all {
		wantTale(t, what, s, key, x)
	}
	for _, kind := range kinds() {
		keys := []string{}
		for _, c := range want {
			if c.Kind == kind {
				keys = append(keys, c.Key)
			}
			wantCell(t, what, s, kind, c.Key, want)
		}
		if got := s.Keys(kind); !slices.Equal(got, keys) {
			t.Errorf("%s: Keys(%d): %q; want %q", what, kind, got, keys)
		}
		for _, key := range append(names(), "none", "key 1", "key 2") {
			wantCell(t, what, s, kind, key, want)
		}
	}
}

// wantCell fails, if the cell of a place is not the one that all cells have there, or not none, if they have none.
func wantCell(t *testing.T, what string, s *state.State, kind int, key string, all []api.Cell) {
	t.Helper()
	c, is := s.Cell(kind, key)
	i := slices.IndexFunc(all, func(c api.Cell) bool { return c.Kind == kind && c.Key == key })
	want := api.Cell{}
	if i >= 0 {
		want = all[i]
	}
	if is != (i >= 0) || !sameCell(c, want) {
		t.Errorf("%s: Cell(%d, %.20q): %s, %v; want %s, %v", what, kind, key, showCells([]api.Cell{c}), is, showCells([]api.Cell{want}), i >= 0)
	}
}

// P18.1: the chapter's first example, cell by cell.
func TestExample(t *testing.T) {
	s := of(t, tx('a', "", put("k", "x"), add("k", "b"), add("k", "a"), incr("k", -1)))
	wantCells(t, "Cells", s.Cells(), cell(1, "k", "01 01 78"), cell(2, "k", "02 01 61 01 62"), cell(3, "k", "01"))
	wantTale(t, "example 1", s, "k", tale{register: []string{"x"}, set: []string{"a", "b"}, count: -1})
	if l := s.Keys(api.CellList); len(l) != 0 {
		t.Errorf("Keys(CellList): %q", l)
	}
	if c, is := s.Cell(api.CellList, "k"); is || !sameCell(c, api.Cell{}) {
		t.Errorf("Cell(CellList, k): %s, %v", showCells([]api.Cell{c}), is)
	}
}

// P18.1: the bytes of a list's cell, with items of several transactions, an Op of two bytes, and texts of none.
func TestListBytes(t *testing.T) {
	ops := []api.Op{}
	for range 127 {
		ops = append(ops, add("s", "x"))
	}
	s := of(t, tx('a', "", append(ops, ins("l", "x"))...), tx('b', "a", ins("l", "", id('a', 128)), ins("l", "yz"), ins("l", "gone"), del("l", self(3))))
	c, is := s.Cell(api.CellList, "l")
	hash := func(name string) string { return name + strings.Repeat("00", 31) }
	want := cell(4, "l", "03"+hash("62")+"02 02 79 7a"+hash("61")+"80 01 01 78"+hash("62")+"01 00")
	if !is || !sameCell(c, want) {
		t.Errorf("Cell: %x, %v; want %x", c.Value, is, want.Value)
	}
}

// P18.1: of a history of nothing nothing is shown.
func TestNothing(t *testing.T) {
	wantShown(t, "no entries", of(t), nil)
	wantShown(t, "no heads", state.Of(pastAt(t, pastOf(t, busy()), nil)), nil)
	wantShown(t, "no operations", of(t, tx('a', ""), tx('b', "a"), tx('c', "")), nil)
}

// P18.1: a key may have cells of all four kinds, of some, of none; each is of its own key.
func TestKindsOfAKey(t *testing.T) {
	make := map[int]api.Op{api.CellRegister: put("k", "1"), api.CellSet: add("k", "2"), api.CellCounter: incr("k", 3), api.CellList: ins("k", "4")}
	for some := range 16 {
		ops, all := []api.Op{}, tale{}
		for kind := api.CellRegister; kind <= api.CellList; kind++ {
			if some>>(kind-1)&1 == 0 {
				continue
			}
			ops = append(ops, make[kind])
			switch kind {
			case api.CellRegister:
				all.register = []string{"1"}
			case api.CellSet:
				all.set = []string{"2"}
			case api.CellCounter:
				all.count = 3
			case api.CellList:
				all.list = []api.Item{{ID: id('b', len(ops)), Text: "4"}}
			}
		}
		other := tx('a', "", put("a", "x"), add("l", "x"), incr("a", 1), ins("l", "x"))
		s := of(t, other, tx('b', "", ops...))
		wantShown(t, fmt.Sprint("kinds ", some), s, map[string]tale{"k": all, "a": {register: []string{"x"}, count: 1}, "l": {set: []string{"x"}, list: []api.Item{{ID: id('a', 4), Text: "x"}}}})
	}
}

// P18.1: what undoes things of one kind undoes nothing of the others under the same key.
func TestUnlikeKinds(t *testing.T) {
	all := []api.Op{put("k", "1"), add("k", "2"), incr("k", 3), ins("k", "4")}
	whole := tale{register: []string{"1"}, set: []string{"2"}, count: 3, list: []api.Item{{ID: id('a', 4), Text: "4"}}}
	for what, c := range map[string]struct {
		op   api.Op
		undo func(*tale)
	}{
		"clear":  {reset("k"), func(x *tale) { x.register = nil }},
		"remove": {remove("k", "2"), func(x *tale) { x.set = nil }},
		"wipe":   {wipe("k"), func(x *tale) { x.set = nil }},
		"zero":   {zero("k"), func(x *tale) { x.count = 0 }},
		"delete": {del("k", id('a', 4)), func(x *tale) { x.list = nil }},
		"other":  {remove("k", "1"), func(*tale) {}},
	} {
		want := whole
		c.undo(&want)
		wantShown(t, what, of(t, tx('a', "", all...), tx('b', "a", c.op)), map[string]tale{"k": want})
	}
}

// P18.1: under a register that was cleared, a set that was wiped, a counter that has come back to 0, a list whose items are all gone nothing stands; where it is done without having seen it, all stands.
func TestGone(t *testing.T) {
	make := []api.Op{put("r", "x"), add("s", "x"), add("s", "y"), incr("n", 5), ins("l", "x"), ins("l", "y", self(5)), add("t", "x"), incr("m", math.MinInt64)}
	undo := []api.Op{reset("r"), wipe("s"), incr("n", -5), del("l", id('a', 5)), del("l", id('a', 6)), remove("t", "x"), zero("m")}
	wantShown(t, "undone", of(t, tx('a', "", make...), tx('b', "a", undo...)), nil)
	wantShown(t, "undone, and undone again", of(t, tx('a', "", make...), tx('b', "a", undo...), tx('c', "b", slices.DeleteFunc(slices.Clone(undo), func(o api.Op) bool { return o.Kind == api.OpIncr })...)), nil)
	wantShown(t, "come round to 0", of(t, tx('a', "", incr("n", math.MinInt64)), tx('b', "", incr("n", math.MinInt64))), nil)
	wantShown(t, "counted nothing", of(t, tx('a', "", incr("n", 0), incr("n", 1), incr("n", -1))), nil)
	wantShown(t, "no items", of(t, tx('a', "", put("l", "x"), reset("l")), tx('b', "", ins("l", "x", id('a', 1)), ins("l", "y", id('z', 1)))), nil)
	wantShown(t, "not seen", of(t, tx('a', "", make...), tx('b', "", undo...)), map[string]tale{
		"r": {register: []string{"x"}}, "s": {set: []string{"x", "y"}}, "t": {set: []string{"x"}}, "m": {count: math.MinInt64},
		"l": {list: []api.Item{{ID: id('a', 5), Text: "x"}, {ID: id('a', 6), Text: "y"}}},
	})
}

// P18.1: an empty text stands as any other one.
func TestEmptyTexts(t *testing.T) {
	s := of(t, tx('a', "", put("k", ""), add("k", ""), ins("k", "")))
	wantShown(t, "empty texts", s, map[string]tale{"k": {register: []string{""}, set: []string{""}, list: []api.Item{{ID: id('a', 3)}}}})
	wantCells(t, "empty texts", s.Cells(), cell(1, "k", "01 00"), cell(2, "k", "01 00"), cell(4, "k", "01 61"+strings.Repeat("00", 31)+"03 00"))
}

// P18.1: several texts of one register, also the same twice, stand in the one order.
func TestSeveralTexts(t *testing.T) {
	l := []one{tx('a', ""), tx('d', "", put("k", "x")), tx('b', "a", put("k", "z")), tx('c', "", put("k", "x")), tx('e', "a", put("k", ""))}
	wantCells(t, "several", of(t, l...).Cells(), cell(1, "k", "04 01 7a 01 78 01 78 00"))
}

// P18.1: the numbers of a counter, at the ends of the forms, and at those of an int64.
func TestCounterBytes(t *testing.T) {
	for n, want := range map[int64]string{1: "02", -1: "01", 63: "7e", 64: "80 01", -64: "7f", -65: "81 01", math.MaxInt64: "fe ff ff ff ff ff ff ff ff 01", math.MinInt64: "ff ff ff ff ff ff ff ff ff 01"} {
		s := of(t, tx('a', "", incr("n", n)))
		wantCells(t, fmt.Sprint("counter ", n), s.Cells(), cell(3, "n", want))
		wantTale(t, "counter", s, "n", tale{count: n})
	}
}

// P18.1: cells rise by Kind, then by Key, byte by byte: no key first, a beginning ahead of what goes on, whatever the bytes are.
func TestInOrder(t *testing.T) {
	keys := []string{"", "\x00", "\x00\x00", "K", "a", "a\x00", "aa", "ab", "b", "é", "\xff", "\xff\x00"}
	ops := []api.Op{}
	want := []api.Cell{}
	for kind, value := range map[int]string{1: "01 01 78", 2: "01 01 79", 3: "02"} {
		for i := range keys {
			key := keys[i*5%len(keys)]
			ops = append(ops, map[int]api.Op{1: put(key, "x"), 2: add(key, "y"), 3: incr(key, 1)}[kind])
			want = append(want, cell(kind, keys[i], value))
		}
	}
	slices.SortStableFunc(want, func(a, b api.Cell) int { return a.Kind - b.Kind })
	s := of(t, tx('a', "", ops...), tx('b', "", ins("\xff", "x"), ins("", "y"), ins("a\x00", "z")))
	got := s.Cells()
	wantCells(t, "in order", got[:min(len(got), len(want))], want...)
	if l := s.Keys(api.CellList); !slices.Equal(l, []string{"", "a\x00", "\xff"}) {
		t.Errorf("Keys: %q", l)
	}
	for kind := 1; kind <= 3; kind++ {
		if l := s.Keys(kind); !slices.Equal(l, keys) {
			t.Errorf("Keys(%d): %q", kind, l)
		}
	}
}

// P18.1: of a kind that is none there are no keys and no cells.
func TestNoKind(t *testing.T) {
	s := of(t, tx('a', "", put("k", "1"), add("k", "2"), incr("k", 3), ins("k", "4")), tx('b', "", put("", "1")))
	for _, kind := range kinds()[4:] {
		if l := s.Keys(kind); len(l) != 0 {
			t.Errorf("Keys(%d): %q", kind, l)
		}
		for _, key := range []string{"k", ""} {
			if c, is := s.Cell(kind, key); is || !sameCell(c, api.Cell{}) {
				t.Errorf("Cell(%d, %q): %s, %v", kind, key, showCells([]api.Cell{c}), is)
			}
		}
	}
}

// P18.1: the examples of the whole that speak of what is shown.
func TestExamplesOfTheWhole(t *testing.T) {
	a, b, c := tx('a', "", put("k", "1")), tx('b', "a", put("k", "2")), tx('c', "a", put("k", "3"))
	wantTale(t, "a", of(t, a), "k", tale{register: []string{"1"}})
	wantTale(t, "a, b", of(t, a, b), "k", tale{register: []string{"2"}})
	wantTale(t, "a, b, c", of(t, a, b, c), "k", tale{register: []string{"2", "3"}})
	wantTale(t, "a, b, c, d", of(t, a, b, c, tx('d', "bc", put("k", "4"))), "k", tale{register: []string{"4"}})
	five, seven := tx('a', "", incr("n", 5)), tx('b', "", incr("n", 7))
	wantTale(t, "counted", of(t, five, seven), "n", tale{count: 12})
	wantTale(t, "counted, and the 5 set to zero", of(t, five, seven, tx('c', "a", zero("n"))), "n", tale{count: 7})
	s := of(t, tx('a', "", ins("l", "x"), ins("l", "y", self(1))), tx('b', "a", ins("l", "p", id('a', 1))), tx('c', "a", ins("l", "q", id('a', 1))))
	wantTale(t, "x q p y", s, "l", tale{list: []api.Item{{ID: id('a', 1), Text: "x"}, {ID: id('c', 1), Text: "q"}, {ID: id('b', 1), Text: "p"}, {ID: id('a', 2), Text: "y"}}})
}
