package live_test

import (
	"encoding/binary"
	"math"
	"slices"
	"testing"

	"pleach/api"
)

// tale is a history, and the cells that it shows.
type tale struct {
	what string
	l    []api.Entry
	want []api.Cell
}

// items tells a list's cell.
func items(key string, l ...api.Item) api.Cell {
	b := binary.AppendUvarint(nil, uint64(len(l)))
	for _, x := range l {
		b = binary.AppendUvarint(append(b, x.ID.Node[:]...), uint64(x.ID.Op))
		b = append(binary.AppendUvarint(b, uint64(len(x.Text))), x.Text...)
	}
	return api.Cell{Kind: api.CellList, Key: key, Value: b}
}

func item(name byte, op int, text string) api.Item { return api.Item{ID: id(name, op), Text: text} }

// wantTales fails, if a history, taken in whichever order, shows something else in the end, or on the way.
func wantTales(t *testing.T, all []tale) {
	t.Helper()
	for _, x := range all {
		for _, l := range allOrders(x.l) {
			v := of(t)
			for i, y := range l {
				wantTaken(t, x.what, v, l[:i], y)
			}
			wantCells(t, x.what, v.Cells(), x.want...)
			if t.Failed() {
				t.Fatal(showAll(l))
			}
		}
	}
}

// P24.2, P24.3, P24.5: registers, in all orders in which each history may be taken.
func TestRegisters(t *testing.T) {
	one := func(text string) []api.Cell { return []api.Cell{cell(1, "k", "01 01"+text)} }
	wantTales(t, []tale{
		{"put over", entries(tx('a', "", put("k", "1")), tx('b', "a", put("k", "2"))), one("32")},
		{"two", entries(tx('b', "", put("k", "2")), tx('a', "", put("k", "1"))), []api.Cell{cell(1, "k", "02 01 31 01 32")}},
		{"two, and one over both", entries(tx('a', "", put("k", "1")), tx('b', "", put("k", "2")), tx('c', "ab", put("k", "3"))), one("33")},
		{"two, and one over one", entries(tx('a', "", put("k", "1")), tx('b', "", put("k", "2")), tx('c', "a", put("k", "3"))), []api.Cell{cell(1, "k", "02 01 32 01 33")}},
		{"a clear that has seen nothing", entries(tx('a', "", put("k", "1")), tx('b', "", reset("k")), tx('c', "ab")), one("31")},
		{"a clear that has seen it", entries(tx('a', "", put("k", "1")), tx('b', "a"), tx('c', "b", reset("k"))), nil},
		{"a clear that has seen one of two", entries(tx('a', "", put("k", "1")), tx('b', "", put("k", "2")), tx('c', "b", reset("k"))), one("31")},
		{"in a row", entries(tx('a', "", put("k", "1"), put("k", "2"), reset("k"), put("k", "3"), put("k", "4"))), one("34")},
		{"put and cleared", entries(tx('a', "", put("k", "1"), reset("k"))), nil},
		{"cleared and put", entries(tx('a', "", put("k", "1")), tx('b', "a", reset("k"), put("k", "2"), put("l", "3"), reset("l"))), one("32")},
		{"put, cleared, and put over by others", entries(tx('a', "", put("k", "1")), tx('b', "a", put("k", "2"), reset("k")), tx('c', "a", put("k", "3")), tx('d', "b", put("k", "4"))), []api.Cell{cell(1, "k", "02 01 33 01 34")}},
		{"hashes that fall", entries(tx('d', "", put("k", "d")), tx('a', "d", put("k", "a")), tx('b', "", put("k", "b")), tx('c', "", put("k", "c"))), []api.Cell{cell(1, "k", "03 01 62 01 63 01 61")}},
		{"behind one that says nothing", entries(tx('e', ""), tx('a', "e", put("k", "a")), tx('b', "", put("k", "b")), tx('f', "", put("k", "f")), tx('c', "e", put("k", "c"))), []api.Cell{cell(1, "k", "04 01 62 01 61 01 63 01 66")}},
		{"the same text twice", entries(tx('a', "", put("k", "x")), tx('b', "", put("k", "x")), tx('c', "", put("k", ""))), []api.Cell{cell(1, "k", "03 01 78 01 78 00")}},
		{"the same text over one of two", entries(tx('a', "", put("k", "x")), tx('b', "", put("k", "x")), tx('c', "a", put("k", "x"))), []api.Cell{cell(1, "k", "02 01 78 01 78")}},
		{"the zero hash", append(entries(tx('a', "", put("k", "a"))), behind(api.Hash{}, nil, nil, put("k", "0")), behind(api.Hash{31: 1}, []api.Entry{raw(api.Hash{}, 1, nil)}, []api.Hash{{}}, put("k", "1"))), []api.Cell{cell(1, "k", "02 01 31 01 61")}},
	})
}

// P24.2, P24.3, P24.5: sets, likewise.
func TestSets(t *testing.T) {
	has := func(value string) []api.Cell { return []api.Cell{cell(2, "s", value)} }
	wantTales(t, []tale{
		{"removed", entries(tx('a', "", add("s", "b"), add("s", "a"), remove("s", "b"))), has("01 01 61")},
		{"removed ahead", entries(tx('a', "", remove("s", "b"), add("s", "b"))), has("01 01 62")},
		{"added and removed at one time", entries(tx('a', "", add("s", "a")), tx('b', "a", remove("s", "a")), tx('c', "a", add("s", "a"))), has("01 01 61")},
		{"added and removed", entries(tx('a', "", add("s", "a")), tx('b', "a", remove("s", "a"))), nil},
		{"wiped and added", entries(tx('a', "", add("s", "a")), tx('b', "a", wipe("s"), add("s", "c")), tx('c', "a", add("s", "b"))), has("02 01 62 01 63")},
		{"added and wiped", entries(tx('a', "", add("s", "a")), tx('b', "", add("s", "b")), tx('c', "a", add("s", "c"), remove("s", "b"), wipe("s"), remove("s", "x"))), has("01 01 62")},
		{"added anew by one that has seen it, removed by one that has not", entries(tx('a', "", add("s", "x")), tx('b', "a", add("s", "x")), tx('c', "a", remove("s", "x"))), has("01 01 78")},
		{"added anew, and removed by one that has seen both", entries(tx('a', "", add("s", "x")), tx('b', "a", add("s", "x")), tx('c', "b", remove("s", "x")), tx('d', "a", wipe("s"))), nil},
		{"added by two, and removed by one that has seen the one", entries(tx('a', "", add("s", "x")), tx('b', "", add("s", "x")), tx('c', "b", remove("s", "x")), tx('d', "a")), has("01 01 78")},
		{"added by two, and removed by one that has seen both", entries(tx('a', "", add("s", "x")), tx('b', "", add("s", "x")), tx('c', "ab", remove("s", "x"), add("s", "y"))), has("01 01 79")},
		{"removed and added in one", entries(tx('a', "", add("s", "x")), tx('b', "a", remove("s", "x"), add("s", "x")), tx('c', "a", remove("s", "x"))), has("01 01 78")},
		{"added and removed in one", entries(tx('a', "", add("s", "x")), tx('b', "a", add("s", "x"), remove("s", "x")), tx('c', "b", add("s", ""))), has("01 00")},
		{"wiped twice", entries(tx('a', "", add("s", "x"), add("s", "y")), tx('b', "a", wipe("s"), add("s", "x"), wipe("s"), add("s", "z"))), has("01 01 7a")},
		{"wiped, of another key", entries(tx('a', "", add("s", "x")), tx('b', "a", wipe("S"), wipe(""), remove("ss", "x"))), has("01 01 78")},
		{"beginnings, and bytes", entries(tx('a', "", add("s", "ab"), add("s", "a\x00")), tx('b', "", add("s", "\xff"), add("s", "a"), remove("s", "ab"))), has("04 01 61 02 61 00 02 61 62 01 ff")},
	})
}

// P24.2, P24.3, P24.5: counters, likewise.
func TestCounters(t *testing.T) {
	at := func(value string) []api.Cell { return []api.Cell{cell(3, "k", value)} }
	wantTales(t, []tale{
		{"one", entries(tx('a', "", incr("k", 5))), at("0a")},
		{"a zero that has seen one", entries(tx('a', "", incr("k", 5)), tx('b', "a", zero("k")), tx('c', "a", incr("k", 7))), at("0e")},
		{"behind both", entries(tx('a', "", incr("k", 5)), tx('b', "a", zero("k")), tx('c', "a", incr("k", 7)), tx('d', "bc", incr("k", 1), zero("k"), incr("k", 2))), at("04")},
		{"up and down", entries(tx('a', "", incr("k", 5)), tx('b', "a", zero("k"), incr("k", 1), incr("k", -1))), nil},
		{"up here and down there", entries(tx('a', "", incr("k", 5)), tx('b', "", incr("k", -5)), tx('c', "b", zero("k"))), at("0a")},
		{"round", entries(tx('a', "", incr("k", math.MaxInt64)), tx('b', "", incr("k", 1))), at("ff ff ff ff ff ff ff ff ff 01")},
		{"round and back", entries(tx('a', "", incr("k", math.MaxInt64)), tx('b', "", incr("k", 1)), tx('c', "b", incr("k", math.MinInt64))), nil},
		{"round, and a zero", entries(tx('a', "", incr("k", math.MinInt64)), tx('b', "", incr("k", math.MinInt64), incr("k", 3)), tx('c', "a", zero("k"))), at("f9 ff ff ff ff ff ff ff ff 01")},
		{"a zero ahead", entries(tx('a', "", zero("k"), incr("k", 3))), at("06")},
		{"two zeros", entries(tx('a', "", incr("k", 3)), tx('b', "a", zero("k"), incr("k", 8)), tx('c', "a", incr("k", 1), zero("k"))), at("10")},
		{"counted, zero, counted by one", entries(tx('a', "", incr("k", 3)), tx('b', "a", incr("k", 4), zero("k"), incr("k", 5)), tx('c', "", zero("k"), zero("l"))), at("0a")},
		{"nothing counted", entries(tx('a', "", incr("k", 0)), tx('b', "", zero("k"))), nil},
	})
}

// P24.2, P24.3, P24.5: lists, likewise.
func TestLists(t *testing.T) {
	list := func(l ...api.Item) []api.Cell { return []api.Cell{items("k", l...)} }
	wantTales(t, []tale{
		{"behind", entries(tx('a', "", ins("k", "x"), ins("k", "y", self(1)))), list(item('a', 1, "x"), item('a', 2, "y"))},
		{"at the beginning", entries(tx('a', "", ins("k", "x"), ins("k", "y"))), list(item('a', 2, "y"), item('a', 1, "x"))},
		{"twice behind", entries(tx('a', "", ins("k", "x"), ins("k", "z", self(1)), ins("k", "y", self(1)))), list(item('a', 1, "x"), item('a', 3, "y"), item('a', 2, "z"))},
		{"two behind one", entries(tx('a', "", ins("k", "x")), tx('b', "a", ins("k", "y", id('a', 1))), tx('c', "a", ins("k", "z", id('a', 1)))), list(item('a', 1, "x"), item('c', 1, "z"), item('b', 1, "y"))},
		{"and one behind the one", entries(tx('a', "", ins("k", "x")), tx('b', "a", ins("k", "y", id('a', 1))), tx('c', "a", ins("k", "z", id('a', 1))), tx('e', "bc", ins("k", "w", id('b', 1)))), list(item('a', 1, "x"), item('c', 1, "z"), item('b', 1, "y"), item('e', 1, "w"))},
		{"gone, and one behind it", entries(tx('a', "", ins("k", "x")), tx('b', "a", ins("k", "y", id('a', 1)), del("k", id('a', 1)))), list(item('b', 1, "y"))},
		{"one that has seen nothing", entries(tx('a', "", ins("k", "x")), tx('b', "", del("k", id('a', 1)), ins("k", "q", id('a', 1)))), list(item('a', 1, "x"))},
		{"behind one that is gone", entries(tx('a', "", ins("k", "x")), tx('b', "a", del("k", id('a', 1))), tx('c', "b", ins("k", "y", id('a', 1))), tx('d', "c", ins("k", "z", id('a', 1)))), list(item('d', 1, "z"), item('c', 1, "y"))},
		{"behind one that goes", entries(tx('a', "", ins("k", "x")), tx('b', "a", del("k", id('a', 1))), tx('c', "a", ins("k", "y", id('a', 1)))), list(item('c', 1, "y"))},
		{"gone twice", entries(tx('a', "", ins("k", "x"), ins("k", "y")), tx('b', "a", del("k", id('a', 1)), del("k", id('a', 1))), tx('c', "a", del("k", id('a', 1)))), list(item('a', 2, "y"))},
		{"all gone", entries(tx('a', "", ins("k", "x"), ins("k", "y", self(1))), tx('b', "a", del("k", id('a', 1))), tx('c', "a", del("k", id('a', 2)))), nil},
		{"behind one that is no item", entries(tx('a', "", ins("k", "x")), tx('b', "", ins("k", "q", id('a', 1)), ins("k", "r", self(1)), ins("k", "s")), tx('c', "b", ins("k", "t", id('b', 1)), ins("k", "u", id('b', 3)))), list(item('b', 3, "s"), item('c', 2, "u"), item('a', 1, "x"))},
		{"of other keys", entries(tx('a', "", ins("k", "x"), ins("l", "y")), tx('b', "a", ins("k", "q", id('a', 2)), del("k", id('a', 2)), del("l", id('a', 1)))), append(list(item('a', 1, "x")), items("l", item('a', 2, "y")))},
		{"what is no insert", entries(tx('a', "", ins("k", "x"), put("k", "y")), tx('b', "a", ins("k", "q", id('a', 2)), del("k", id('a', 2)), ins("k", "q", id('a', 9)))), append([]api.Cell{cell(1, "k", "01 01 79")}, list(item('a', 1, "x"))...)},
		{"by its own hash", entries(tx('a', "", ins("k", "x"), ins("k", "y", id('a', 1)), del("k", id('a', 1)), ins("k", "q", id('a', 5)), ins("k", "z", id('a', 2)))), list(item('a', 2, "y"), item('a', 5, "z"))},
		{"laid and gone", entries(tx('a', "", ins("k", "x")), tx('b', "a", ins("k", "y", id('a', 1)), ins("k", "z", self(1)), del("k", self(1)))), list(item('a', 1, "x"), item('b', 2, "z"))},
		{"rows of several that stand behind one", entries(tx('f', "", ins("k", "0")), tx('c', "f", ins("k", "1", id('f', 1)), ins("k", "2", self(1))), tx('e', "c", ins("k", "3", id('c', 1))), tx('b', "f", ins("k", "4", id('f', 1)), ins("k", "5", id('f', 1))), tx('d', "f", ins("k", "6", id('f', 1)))),
			list(item('f', 1, "0"), item('d', 1, "6"), item('c', 1, "1"), item('e', 1, "3"), item('c', 2, "2"), item('b', 2, "5"), item('b', 1, "4"))},
		{"at the beginning, of hashes that fall", entries(tx('d', "", ins("k", "1"), ins("k", "2")), tx('a', "d", ins("k", "3"), ins("k", "4")), tx('c', "", ins("k", "5")), tx('b', "", ins("k", "6"), ins("k", "7", self(1)), ins("k", "8"))),
			list(item('a', 2, "4"), item('a', 1, "3"), item('d', 2, "2"), item('d', 1, "1"), item('c', 1, "5"), item('b', 3, "8"), item('b', 1, "6"), item('b', 2, "7"))},
	})
}

// P24.2: a transaction of the zero hash: an At of a zero Node names an operation of its own transaction, never of that one.
func TestZeroHash(t *testing.T) {
	l := []api.Entry{raw(api.Hash{}, 1, nil, ins("k", "x"), ins("k", "y", self(1)))}
	l = append(l, behind(api.Hash{'b'}, l, []api.Hash{{}}, put("k", "z"), ins("k", "p"), ins("k", "q", self(2)), del("k", self(2))))
	l = append(l, behind(api.Hash{'a'}, l, nil, ins("k", "r")))
	want := items("k", item('b', 3, "q"), item('a', 1, "r"), item(0, 1, "x"), item(0, 2, "y"))
	wantTales(t, []tale{{"the zero hash", l, []api.Cell{cell(1, "k", "01 01 7a"), want}}})
}

// P24.2: one key in registers, sets, counters and lists: what is done to the one is nothing to the others.
func TestOneKey(t *testing.T) {
	l := entries(
		tx('b', "", put("k", "1"), add("k", "1"), incr("k", 1), ins("k", "1")),
		tx('a', "b", reset("k")),
		tx('d', "b", wipe("k")),
		tx('c', "b", zero("k")),
		tx('e', "b", del("k", id('b', 4))))
	wantTales(t, []tale{
		{"all", l, nil},
		{"but the clear", slices.Delete(slices.Clone(l), 1, 2), []api.Cell{cell(1, "k", "01 01 31")}},
		{"but the wipe", slices.Delete(slices.Clone(l), 2, 3), []api.Cell{cell(2, "k", "01 01 31")}},
		{"but the zero", slices.Delete(slices.Clone(l), 3, 4), []api.Cell{cell(3, "k", "02")}},
		{"but the delete", l[:4], []api.Cell{items("k", item('b', 4, "1"))}},
	})
}

// P24.2: reads and keys, by what each call is asked; of kinds that are none, and of keys that nothing was done to, nothing is told.
func TestReads(t *testing.T) {
	v := of(t, entries(
		tx('a', "", put("k", "1"), put("j", ""), add("s", "b"), add("s", "a"), incr("n", 5), incr("m", 0), ins("l", "x"), ins("", "y"), put("gone", "x"), add("gone", "x"), incr("gone", 1), ins("gone", "x")),
		tx('b', "a", put("k", "2"), incr("n", -7), ins("l", "z", id('a', 7)), reset("gone"), wipe("gone"), zero("gone"), del("gone", id('a', 12))),
		tx('c', "a", put("k", "3")))...)
	if l := v.Register("k"); !slices.Equal(l, []string{"2", "3"}) {
		t.Errorf("Register: %q", l)
	}
	if l := v.Register("j"); !slices.Equal(l, []string{""}) {
		t.Errorf("Register: %q", l)
	}
	if l := v.Members("s"); !slices.Equal(l, []string{"a", "b"}) {
		t.Errorf("Members: %q", l)
	}
	if n := v.Count("n"); n != -2 {
		t.Errorf("Count: %d", n)
	}
	if l := v.Items("l"); !slices.Equal(l, []api.Item{item('a', 7, "x"), item('b', 3, "z")}) {
		t.Errorf("Items: %s", showItems(l))
	}
	want := map[int][]string{api.CellRegister: {"j", "k"}, api.CellSet: {"s"}, api.CellCounter: {"n"}, api.CellList: {"", "l"}}
	for _, kind := range kinds() {
		if l := v.Keys(kind); !slices.Equal(l, want[kind]) {
			t.Errorf("Keys(%d): %q", kind, l)
		}
		for _, key := range []string{"gone", "none", "m", "K", "kk", "\x00"} {
			if c, is := v.Cell(kind, key); is || !sameCell(c, api.Cell{}) {
				t.Errorf("Cell(%d, %q): %v, %v", kind, key, c, is)
			}
			if len(v.Register(key))+len(v.Members(key))+len(v.Items(key)) != 0 || v.Count(key) != 0 {
				t.Errorf("%q shows something", key)
			}
		}
	}
	if c, is := v.Cell(api.CellCounter, "n"); !is || !sameCell(c, cell(3, "n", "03")) {
		t.Errorf("Cell: %v, %v", c, is)
	}
	if len(v.Register("s"))+len(v.Members("k"))+len(v.Items("n")) != 0 || v.Count("l") != 0 {
		t.Error("what stands under a key of another kind is told")
	}
}

// P24.2: the heads rise, whatever the order in which they came, and those that were seen are none.
func TestHeads(t *testing.T) {
	v, l := of(t), entries(tx('d', ""), tx('b', ""), tx('c', ""), tx('a', "d"), tx('e', "bc"), tx('0', "ae"))
	for i, want := range []string{"d", "bd", "bcd", "abc", "ae", "0"} {
		takes(t, v, l[i], api.OK)
		if h := v.Heads(); !slices.Equal(h, letters(want)) || v.Len() != i+1 {
			t.Errorf("Heads: %x, Len: %d; want %x, %d", h, v.Len(), want, i+1)
		}
	}
}
