package state_test

import (
	"fmt"
	"slices"
	"strings"
	"testing"

	"pleach/api"
	"pleach/state"
)

// line tells so many entries each of which has the one ahead as its parent.
func line(n int, ops func(i int) []api.Op) []api.Entry {
	l := []api.Entry{}
	for i := range n {
		x := api.Entry{ID: number(i), Node: api.Node{Author: 1, Clock: i + 1, Ops: ops(i)}}
		if i > 0 {
			x.Node.Parents = []api.Hash{number(i - 1)}
		}
		l = append(l, x)
	}
	return l
}

// wide tells so many entries without parents.
func wide(n int, ops func(i int) []api.Op) []api.Entry {
	l := []api.Entry{}
	for i := range n {
		l = append(l, behind(number(i), nil, nil, ops(i)...))
	}
	return l
}

// ident names an operation of the transaction of a number.
func ident(i, op int) api.Ident { return api.Ident{Node: number(i), Op: op} }

// P18.1, P18.2: the longest row that may be: each transaction puts, adds, counts and inserts at the end of a list.
func TestLongestRow(t *testing.T) {
	name := func(i int) string { return fmt.Sprintf("%04d", i) }
	p := pastOf(t, line(api.MaxNodes, func(i int) []api.Op {
		item := ins("k", name(i))
		if i > 0 {
			item.At = ident(i-1, 4)
		}
		return []api.Op{put("k", name(i)), add("k", name(i)), incr("k", 1), item, put(name(i), "x")}
	}))
	for _, n := range []int{api.MaxNodes, 100} {
		want := map[string]tale{}
		k := tale{register: []string{name(n - 1)}, count: int64(n)}
		for i := range n {
			k.set = append(k.set, name(i))
			k.list = append(k.list, api.Item{ID: ident(i, 4), Text: name(i)})
			want[name(i)] = tale{register: []string{"x"}}
		}
		want["k"] = k
		s := state.Of(pastAt(t, p, []api.Hash{number(n - 1)}))
		wantCells(t, "the longest row", s.Cells(), cellsOf(want)...)
		wantTale(t, "the longest row", s, "k", k)
		wantReadBack(t, "the longest row", s)
	}
}

// P18.1, P18.2: as many as may be that have not seen one another.
func TestWidest(t *testing.T) {
	l := wide(api.MaxNodes, func(i int) []api.Op {
		text := string(rune('a' + i%26))
		return []api.Op{reset("k"), put("k", text), wipe("k"), add("k", text), zero("k"), incr("k", int64(i)), ins("k", text)}
	})
	k := tale{count: api.MaxNodes * (api.MaxNodes - 1) / 2}
	for i, x := range l {
		text := x.Node.Ops[1].Text
		k.register = append(k.register, text)
		if i < 26 {
			k.set = append(k.set, text)
		}
		k.list = append(k.list, api.Item{ID: api.Ident{Node: x.ID, Op: 7}, Text: text})
	}
	slices.Reverse(k.list)
	slices.Reverse(l)
	s := state.Of(pastOf(t, l))
	wantShown(t, "the widest", s, map[string]tale{"k": k})
	wantReadBack(t, "the widest", s)
}

// idle are operations under which nothing stands, so that others are few among them.
func idle(n int) []one {
	l := []one{}
	for i := range n {
		l = append(l, tx(byte(200+i), "", slices.Repeat([]api.Op{reset("idle")}, api.MaxOps)...))
	}
	return l
}

// P18.1: few speak of a key, among many operations: one that has seen others by long ways, through such as don't speak of it, undoes what they did, and one that hasn't doesn't.
func TestFewSpeak(t *testing.T) {
	all := append(idle(6),
		tx('z', "", put("k", "1"), add("k", "a"), incr("k", 1), put("other", "x"), ins("k", "x"), ins("k", "y", self(5))),
		tx('b', "z"), tx('c', "b", put("other", "y")), tx('y', "c"),
		tx('d', "y", put("k", "2"), remove("k", "a"), zero("k"), incr("k", 7), del("k", id('z', 5)), ins("k", "p", id('z', 5))),
		tx('e', "", put("k", "3"), add("k", "a"), incr("k", 2), ins("k", "q", id('z', 5)), ins("k", "r", self(4)), ins("k", "s"), del("k", id('z', 6))),
		tx('f', "c", ins("k", "t", id('z', 5)), add("k", "b"), ins("k", "no", id('c', 1)), ins("k", "no", id('d', 6))),
		tx('a', "ef", ins("k", "u", id('f', 1)), ins("k", "v", id('e', 6)), put("k", "4")))
	l := entries(all...)
	p := pastOf(t, l)
	k := wantWords(t, "few", p, l)["k"]
	if len(k.register) != 2 || len(k.set) != 2 || k.count != 9 || len(k.list) != 6 {
		t.Errorf("another history than was thought of: %v", k)
	}
	for _, heads := range []string{"z", "d", "e", "f", "de", "df", "ef", "a"} {
		heads := append(letters(heads), ids(entries(idle(6)...))...)
		wantWords(t, "few, at some of it", pastAt(t, p, heads), upTo(l, heads))
	}
}

// gathered tells so many that have not seen one another, and one that has seen all of them, by others that say nothing; what each says, ops tells by its number, that of the last one being -1.
func gathered(n int, ops func(i int) []api.Op) []api.Entry {
	l := wide(n, ops)
	joins := []api.Hash{}
	for from := 0; from < n; from += api.MaxParents {
		x := behind(number(1000+from), l, ids(l[from:min(n, from+api.MaxParents)]))
		joins = append(joins, x.ID)
		l = append(l, x)
	}
	first := behind(number(3000), l, joins[:1], ops(-2)...)
	return append(l, first, behind(number(2000), l, joins, ops(-1)...))
}

// P18.1: few operations among many, of transactions of which one has seen as many others as it could name as parents, fewer, and more.
func TestManySeen(t *testing.T) {
	for _, n := range []int{1, 2, 63, 64, 65, 66, 130} {
		for what, one := range map[string]func(i int) []api.Op{
			"register": func(i int) []api.Op { return []api.Op{put("k", fmt.Sprint(i))} },
			"set": func(i int) []api.Op {
				if i < 0 {
					return []api.Op{wipe("k"), add("k", fmt.Sprint(i))}
				}
				return []api.Op{add("k", fmt.Sprint(i))}
			},
			"counter": func(i int) []api.Op {
				if i < 0 {
					return []api.Op{zero("k"), incr("k", int64(i))}
				}
				return []api.Op{incr("k", 1<<i)}
			},
			"list": func(i int) []api.Op {
				if i < 0 {
					return []api.Op{del("k", ident(0, 1)), ins("k", "last", ident(n-1, 1)), ins("k", "first")}
				}
				return []api.Op{ins("k", fmt.Sprint(i))}
			},
		} {
			l := append(gathered(n, one), entries(idle(1+n/5)...)...)
			k := wantWords(t, fmt.Sprint(what, " of ", n), pastOf(t, l), l)["k"]
			if len(k.register)+len(k.set)+len(k.list) == 0 && k.count == 0 {
				t.Errorf("%s of %d: nothing stands there", what, n)
			}
		}
	}
}

// P18.1, P18.3: as many keys as transactions may have, in several of them, of which half go in the end. (Each key for itself out of the whole history would take minutes.)
func TestManyKeys(t *testing.T) {
	const many = 48
	want := map[string]tale{}
	name := func(i, k int) string { return fmt.Sprintf("%d/%d", i, k*31%api.MaxOps) }
	l := line(many, func(i int) []api.Op {
		ops := []api.Op{}
		for k := range api.MaxOps {
			key, last := name(i, k), name(i-1, k)
			switch {
			case i%2 == 0:
				ops = append(ops, []api.Op{put(key, "x"), add(key, "y"), incr(key, 2), ins(key, "z")}[k%4])
			case k < api.MaxOps/2:
				ops = append(ops, []api.Op{reset(last), wipe(last), zero(last), del(last, ident(i-1, k+1))}[k%4])
			default:
				want[last] = []tale{{register: []string{"x"}}, {set: []string{"y"}}, {count: 2}, {list: []api.Item{{ID: ident(i-1, k+1), Text: "z"}}}}[k%4]
			}
		}
		return ops
	})
	p := pastOf(t, l)
	s := state.Of(p)
	wantCells(t, "many keys", s.Cells(), cellsOf(want)...)
	for kind := api.CellRegister; kind <= api.CellList; kind++ {
		if n := len(s.Keys(kind)); n != many*api.MaxOps/16 {
			t.Errorf("Keys(%d): %d", kind, n)
		}
	}
	earlier := state.Of(pastAt(t, p, []api.Hash{number(many - 2)}))
	changes := state.Changes(earlier, s)
	if len(changes) != api.MaxOps/2 || slices.ContainsFunc(changes, func(c api.Cell) bool { return len(c.Value) > 0 }) {
		t.Errorf("%d changes", len(changes))
	}
	wantCells(t, "none came", state.Changes(s, state.Of(p)))
}

// P18.1, P18.2: the longest keys and texts that may be are told whole, and keys that are unlike at their last byte alone are two.
func TestLongest(t *testing.T) {
	key, text := strings.Repeat("k", api.MaxKey-1), strings.Repeat("\xff", api.MaxText-1)
	l := entries(
		tx('a', "", put(key+"b", text+"b"), add(key+"a", text+"a"), incr(key, 1), ins(key+"b", text+"c")),
		tx('b', "a", add(key+"a", text+"b"), put(key, ""), ins(key+"b", text+"d", id('a', 4)), ins(key+"a", "no", id('a', 4))))
	s := state.Of(pastOf(t, l))
	all := map[string]tale{
		key:       {register: []string{""}, count: 1},
		key + "a": {set: []string{text + "a", text + "b"}},
		key + "b": {register: []string{text + "b"}, list: []api.Item{{ID: id('a', 4), Text: text + "c"}, {ID: id('b', 3), Text: text + "d"}}},
	}
	wantShown(t, "the longest", s, all)
	wantReadBack(t, "the longest", s)
	wantTale(t, "longer than a key may be", s, key+"ab", tale{})
	if c, is := s.Cell(api.CellRegister, key+"bb"); is || !sameCell(c, api.Cell{}) {
		t.Error("a cell of a key longer than may be")
	}
}

// P18.1: as many operations as a transaction may have, of one key; an item's Op is the last one's number.
func TestManyOperations(t *testing.T) {
	ops := []api.Op{}
	for i := range api.MaxOps {
		ops = append(ops, []api.Op{put("k", "x"), add("k", fmt.Sprint(i)), incr("k", 1), ins("k", "z")}[i%4])
	}
	l := wide(1, func(int) []api.Op { return ops })
	s := state.Of(pastOf(t, l))
	if items := s.Items("k"); len(items) != api.MaxOps/4 || items[0].ID != ident(0, api.MaxOps) {
		t.Errorf("%d items", len(items))
	}
	wantWords(t, "many operations", pastOf(t, l), l)
}
