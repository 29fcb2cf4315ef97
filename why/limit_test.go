package why_test

import (
	"fmt"
	"slices"
	"strings"
	"testing"

	"pleach/api"
	"pleach/past"
	"pleach/why"
)

// writer tells who made the transaction of a number.
func writer(i int) int { return 1 + i%api.MaxReplicas }

// line tells so many entries each of which has the one ahead as its parent.
func line(n int, ops func(i int) []api.Op) []api.Entry {
	l := []api.Entry{}
	for i := range n {
		x := api.Entry{ID: number(i), Node: api.Node{Author: writer(i), Clock: i + 1, Ops: ops(i)}}
		if i > 0 {
			x.Node.Parents = []api.Hash{number(i - 1)}
		}
		l = append(l, x)
	}
	return l
}

// wide tells so many entries without parents.
func wide(n int, ops func(i int) []api.Op) []api.Entry {
	l := []api.Entry{}
	for i := range n {
		x := behind(number(i), nil, nil, ops(i)...)
		x.Node.Author = writer(i)
		l = append(l, x)
	}
	return l
}

// gathered tells so many that have not seen one another, and one that has seen all of them, by others that say nothing; what each says, ops tells by its number, that of the last one being -1, and of one that has seen a few -2.
func gathered(n int, ops func(i int) []api.Op) []api.Entry {
	l := wide(n, ops)
	joins := []api.Hash{}
	for from := 0; from < n; from += api.MaxParents {
		x := behind(number(1000+from), l, ids(l[from:min(n, from+api.MaxParents)]))
		joins = append(joins, x.ID)
		l = append(l, x)
	}
	first := behind(number(3000), l, joins[:1], ops(-2)...)
	return append(l, first, behind(number(2000), l, joins, ops(-1)...))
}

// idOf names an operation of the transaction of a number.
func idOf(i, op int) api.Ident { return api.Ident{Node: number(i), Op: op} }

// markOf tells such an operation, and what undoes it.
func markOf(i, op int, by ...api.Ident) why.Mark {
	return why.Mark{Of: idOf(i, op), Author: writer(i), By: by}
}

// wantBoth fails, if of the key k's cell others are told.
func wantBoth(t *testing.T, what string, p *past.Past, kind int, makers, undone []why.Mark) {
	t.Helper()
	wantMarks(t, what+": Makers", why.Makers(p, kind, "k"), makers)
	wantMarks(t, what+": Undone", why.Undone(p, kind, "k"), undone)
	if got, want := why.Authors(p, kind, "k"), authors(makers); !slices.Equal(got, want) {
		t.Errorf("%s: Authors: %d; want %d", what, got, want)
	}
}

// inRow tells what the transaction of a number in the longest row does.
func inRow(i int) []api.Op {
	text := fmt.Sprint(i)
	if i == 0 {
		return []api.Op{put("k", text), add("k", text), reset("j"), incr("k", 1), ins("k", text), wipe("j")}
	}
	return []api.Op{put("k", text), add("k", text), remove("k", fmt.Sprint(i-1)), incr("k", 1), ins("k", text, idOf(i-1, 5)), del("k", idOf(i-1, 5))}
}

// P25.1, P25.3: the longest row that may be: each transaction puts, adds, counts and inserts, and undoes what the one ahead added and inserted.
func TestLongestRow(t *testing.T) {
	p := pastOf(t, line(api.MaxNodes, inRow))
	for _, n := range []int{api.MaxNodes, 100} {
		q := pastAt(t, p, []api.Hash{number(n - 1)})
		added, inserted, counted := []why.Mark{}, []why.Mark{}, []why.Mark{}
		for i := range n {
			counted = append(counted, markOf(i, 4))
			if i < n-1 {
				added = append(added, markOf(i, 2, idOf(i+1, 3)))
				inserted = append(inserted, markOf(i, 5, idOf(i+1, 6)))
			}
		}
		wantMarks(t, "a register in the longest row", why.Makers(q, api.CellRegister, "k"), []why.Mark{markOf(n-1, 1)})
		wantBoth(t, "a set in the longest row", q, api.CellSet, []why.Mark{markOf(n-1, 2)}, added)
		wantBoth(t, "a counter in the longest row", q, api.CellCounter, counted, nil)
		wantBoth(t, "a list in the longest row", q, api.CellList, []why.Mark{markOf(n-1, 5)}, inserted)
		if got, e := why.Lacks(q, []api.Hash{number(n / 2)}, api.CellCounter, "k"); e != api.OK || !slices.EqualFunc(got, counted[n/2+1:], sameMark) {
			t.Errorf("Lacks in the longest row: %d marks, %d", len(got), e)
		}
	}
	if q, e := why.Alone(p, number(4000)); e != api.OK || q.Len() != 4001 {
		t.Errorf("Alone in the longest row: %d", e)
	}
}

// P25.1: of a row of puts each is undone by all that come behind it, in their order.
func TestRowOfPuts(t *testing.T) {
	const n = 300
	undone := []why.Mark{}
	for i := range n - 1 {
		m := markOf(i, 1)
		for k := i + 1; k < n; k++ {
			m.By = append(m.By, idOf(k, 1))
		}
		undone = append(undone, m)
	}
	p := pastOf(t, line(n, func(i int) []api.Op { return []api.Op{put("k", "x")} }))
	wantBoth(t, "a row of puts", p, api.CellRegister, []why.Mark{markOf(n-1, 1)}, undone)
}

// P25.1, P25.3: as many as may be that have not seen one another undo nothing but their own.
func TestWidest(t *testing.T) {
	l := wide(api.MaxNodes, func(i int) []api.Op {
		return []api.Op{reset("k"), put("k", "x"), wipe("k"), add("k", "x"), zero("k"), incr("k", 1), zero("k"), incr("k", 0), ins("k", "x"), del("k", self(9)), ins("k", "y", self(9))}
	})
	slices.Reverse(l)
	p := pastOf(t, l)
	makers := func(op int) []why.Mark {
		out := []why.Mark{}
		for i := range api.MaxNodes {
			out = append(out, markOf(i, op))
		}
		return out
	}
	undone := func(op, by int) []why.Mark {
		out := makers(op)
		for i := range out {
			out[i].By = []api.Ident{idOf(i, by)}
		}
		return out
	}
	wantBoth(t, "the widest register", p, api.CellRegister, makers(2), nil)
	wantBoth(t, "the widest set", p, api.CellSet, makers(4), nil)
	wantBoth(t, "the widest counter", p, api.CellCounter, makers(8), undone(6, 7))
	wantBoth(t, "the widest list", p, api.CellList, makers(11), undone(9, 10))
	heads := ids(l)[1:]
	if got, e := why.Lacks(p, append(heads, heads...), api.CellList, "k"); e != api.OK || !slices.EqualFunc(got, makers(11)[api.MaxNodes-1:], sameMark) {
		t.Errorf("Lacks of all but one: %s, %d", show(got), e)
	}
	if got := why.Authors(p, api.CellList, "k"); len(got) != api.MaxReplicas {
		t.Errorf("Authors: %d", got)
	}
}

// P25.1: one undoes what as many transactions did as it could name as parents, fewer, and more; another one what a few of them did.
func TestManySeen(t *testing.T) {
	for _, n := range []int{1, 2, 63, 64, 65, 66, 130} {
		for kind, ops := range map[int]func(i int) []api.Op{
			api.CellRegister: func(i int) []api.Op { return []api.Op{put("k", fmt.Sprint(i)), reset("k")}[:1+max(0, -i)%2] },
			api.CellSet: func(i int) []api.Op {
				if i < 0 {
					return []api.Op{remove("k", "0"), add("k", "0"), wipe("k"), add("k", "1")}
				}
				return []api.Op{add("k", "0"), add("k", "1")}
			},
			api.CellCounter: func(i int) []api.Op {
				if i < 0 {
					return []api.Op{zero("k"), incr("k", int64(i))}
				}
				return []api.Op{incr("k", 1)}
			},
			api.CellList: func(i int) []api.Op {
				if i < 0 {
					return []api.Op{del("k", idOf(0, 1)), ins("k", "last", idOf(n-1, 1)), ins("k", "first")}
				}
				return []api.Op{ins("k", fmt.Sprint(i))}
			},
		} {
			l := gathered(n, ops)
			if w := wantTale(t, fmt.Sprint(n, " seen"), pastOf(t, l), l, kind, "k"); len(w.undone) == 0 || len(w.undone[0].By) < 2 {
				t.Errorf("%d of the kind %d: nothing is undone twice: %s", n, kind, show(w.undone))
			}
		}
	}
}

// P25.1: the longest keys and texts that may be are told apart at their last bytes.
func TestLongest(t *testing.T) {
	key, text := strings.Repeat("k", api.MaxKey-1), strings.Repeat("\xff", api.MaxText-1)
	l := entries(
		tx('a', "", add(key+"a", text+"a"), add(key+"a", text+"b"), add(key, text+"a"), add(key+"a", text)),
		tx('b', "a", remove(key+"a", text+"a"), wipe(key+"b"), remove(key, text)))
	p := pastOf(t, l)
	wantCell(t, "the longest", p, api.CellSet, key+"a", "a2 a4", "a1-b1")
	wantCell(t, "a shorter one", p, api.CellSet, key, "a3", "")
	wantCell(t, "another one", p, api.CellSet, key+"b", "", "")
	wantCell(t, "longer than a key may be", p, api.CellSet, key+"ab", "", "")
}

// P25.1: as many operations as a transaction may have, of one key, each kind of which makes and undoes.
func TestManyOperations(t *testing.T) {
	r := chance()
	for kind, ops := range map[int][]api.Op{
		api.CellRegister: {put("k", "x"), put("k", "y"), reset("k")},
		api.CellSet:      {add("k", "x"), add("k", "y"), add("k", "z"), remove("k", "x"), remove("k", "y"), wipe("k")},
		api.CellCounter:  {incr("k", 1), incr("k", 0), zero("k")},
	} {
		row := []api.Op{}
		for range api.MaxOps {
			row = append(row, any1(r, ops...))
		}
		row[api.MaxOps-1] = ops[0]
		l := wide(1, func(int) []api.Op { return row })
		w := wantTale(t, "many operations", pastOf(t, l), l, kind, "k")
		if n := len(w.makers); n == 0 || w.makers[n-1].Of.Op != api.MaxOps {
			t.Errorf("the last one is no maker: %s", show(w.makers))
		}
	}
}

// P25.1: the longest chain of one transaction, each behind the one ahead: all are items; behind a name that is none nothing is.
func TestChain(t *testing.T) {
	row := []api.Op{ins("k", "0")}
	for i := 1; i < api.MaxOps-1; i++ {
		row = append(row, ins("k", fmt.Sprint(i), self(i)))
	}
	row = append(row, del("k", self(api.MaxOps/2)))
	makers := []why.Mark{}
	for i := 1; i < api.MaxOps; i++ {
		if i != api.MaxOps/2 {
			makers = append(makers, markOf(0, i))
		}
	}
	p := pastOf(t, wide(1, func(int) []api.Op { return row }))
	wantBoth(t, "a chain", p, api.CellList, makers, []why.Mark{markOf(0, api.MaxOps/2, idOf(0, api.MaxOps))})
	row = slices.Clone(row)
	row[0].At = idOf(5, 1)
	wantBoth(t, "a chain behind nothing", pastOf(t, wide(1, func(int) []api.Op { return row })), api.CellList, nil, nil)
}
