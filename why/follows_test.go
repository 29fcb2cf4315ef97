package why_test

import (
	"bytes"
	"cmp"
	"fmt"
	"slices"
	"testing"

	"pleach/api"
	"pleach/counts"
	"pleach/op"
	"pleach/orset"
	"pleach/past"
	"pleach/reg"
	"pleach/seq"
	"pleach/why"
)

// What P25.4 and P25.5 say is held against the package's own answers, and those of the layers below, alone.

// opsOf tells the operations that marks name.
func opsOf(t *testing.T, p *past.Past, l []why.Mark) []api.Op {
	t.Helper()
	out := []api.Op{}
	for _, m := range l {
		x, e := p.Entry(p.Number(m.Of.Node))
		if e != api.OK || m.Of.Op < 1 || m.Of.Op > len(x.Node.Ops) {
			t.Fatalf("a mark of no operation: %s", show(l))
		}
		if m.Author != x.Node.Author {
			t.Errorf("Author %d of an operation of %d's", m.Author, x.Node.Author)
		}
		out = append(out, x.Node.Ops[m.Of.Op-1])
	}
	return out
}

// texts tells those of operations.
func texts(l []api.Op) []string {
	out := []string{}
	for _, o := range l {
		out = append(out, o.Text)
	}
	return out
}

// each tells texts rising, each once.
func each(l []string) []string {
	l = slices.Clone(l)
	slices.Sort(l)
	return slices.Compact(l)
}

// sum goes round at 2^64.
func sum(l []api.Op) int64 {
	var n uint64
	for _, o := range l {
		n += uint64(o.N)
	}
	return int64(n)
}

// byName tells items in the order of their names.
func byName(l []api.Item) []api.Item {
	l = slices.Clone(l)
	slices.SortFunc(l, func(a, b api.Item) int {
		return cmp.Or(bytes.Compare(a.ID.Node[:], b.ID.Node[:]), cmp.Compare(a.ID.Op, b.ID.Op))
	})
	return l
}

// wantMade fails, if the makers of a key's cells make something else than the layers below tell.
func wantMade(t *testing.T, what string, p *past.Past, key string) {
	t.Helper()
	ops := func(kind int) []api.Op { return opsOf(t, p, why.Makers(p, kind, key)) }
	if got, want := texts(ops(api.CellRegister)), reg.Read(p, key); !slices.Equal(got, want) {
		t.Errorf("%s: the makers of register %q put %q; Read: %q", what, key, got, want)
	}
	if got, want := each(texts(ops(api.CellSet))), orset.Members(p, key); !slices.Equal(got, want) {
		t.Errorf("%s: the makers of set %q add %q; Members: %q", what, key, got, want)
	}
	if got, want := sum(ops(api.CellCounter)), counts.Value(p, key); got != want {
		t.Errorf("%s: the makers of counter %q count %d; Value: %d", what, key, got, want)
	}
	made := []api.Item{}
	inserts := ops(api.CellList)
	for i, m := range why.Makers(p, api.CellList, key) {
		made = append(made, api.Item{ID: m.Of, Text: inserts[i].Text})
	}
	if got, want := byName(made), byName(seq.Items(p, key)); !slices.Equal(got, want) {
		t.Errorf("%s: the makers of list %q insert %v; Items: %v", what, key, got, want)
	}
}

// P25.4: what the makers make is what the layers below tell, of whatever history, and as it was at whatever heads.
func TestMakersMake(t *testing.T) {
	r := chance()
	made := map[int]int{}
	for range 250 {
		ground := soil{r: r, keys: any1(r, names(), []string{"k"}), most: any1(r, 4, 8, 8, 30)}
		l := ground.grown(nil, r.IntN(25))
		p := pastOf(t, mixed(r, l))
		q := pastAt(t, p, some(r, l))
		for _, key := range keys() {
			wantMade(t, "all", p, key)
			wantMade(t, "at some of it", q, key)
		}
		if t.Failed() {
			t.Fatal(showAll(l))
		}
		for _, kind := range kinds() {
			made[kind] += min(1, len(why.Makers(p, kind, "k"))/3)
		}
	}
	for _, kind := range kinds() {
		if made[kind] < 20 {
			t.Errorf("too much alike: of the kind %d, %d have three makers", kind, made[kind])
		}
	}
}

// P25.4: sums that go round.
func TestSumsGoRound(t *testing.T) {
	const most = 1<<63 - 1
	for _, n := range [][]int64{{most, 1}, {-most, -2}, {-most - 1, -most - 1}, {most, most, 2}, {-most - 1, -1}, {most, -most, most}, {0, 0}} {
		all := []one{}
		for i, x := range n {
			all = append(all, tx(byte('a'+i), "", incr("k", x)))
		}
		p := of(t, all...)
		wantMade(t, fmt.Sprint(n), p, "k")
		if got := len(why.Makers(p, api.CellCounter, "k")); got != len(n) {
			t.Errorf("%d: %d makers", n, got)
		}
	}
}

// everyMark tells all making operations of a cell, those that nothing undoes with nothing as By, in the one order.
func everyMark(p *past.Past, kind int, key string) []why.Mark {
	l := slices.Concat(why.Makers(p, kind, key), why.Undone(p, kind, key))
	slices.SortFunc(l, func(a, b why.Mark) int {
		return cmp.Or(cmp.Compare(p.Number(a.Of.Node), p.Number(b.Of.Node)), cmp.Compare(a.Of.Op, b.Of.Op))
	})
	return l
}

// leftAt tells what P25.5 says that is left of the marks of a later history in an earlier one: makers, and those undone.
func leftAt(p, earlier *past.Past, kind int, key string) (makers, undone []why.Mark) {
	there := func(i api.Ident) bool { return earlier.Number(i.Node) >= 0 }
	for _, m := range everyMark(p, kind, key) {
		m.By = slices.DeleteFunc(m.By, func(i api.Ident) bool { return !there(i) })
		switch {
		case !there(m.Of):
		case len(m.By) == 0:
			makers = append(makers, m)
		default:
			undone = append(undone, m)
		}
	}
	return makers, undone
}

// P25.5: in each earlier history a making operation is a maker, or undone by just those that undo it in the later one and are there. (Those of the earlier history are no others, and the one order is the same.)
func TestUndoneByJustThese(t *testing.T) {
	r := chance()
	free, fewer := map[int]int{}, map[int]int{}
	for range 250 {
		l := soil{r: r, keys: any1(r, names(), []string{"k"}), most: any1(r, 4, 8, 30)}.grown(nil, r.IntN(25))
		p := pastOf(t, mixed(r, l))
		q := pastAt(t, p, some(r, l))
		for _, kind := range kinds() {
			for _, key := range keys() {
				makers, undone := leftAt(p, q, kind, key)
				wantMarks(t, "makers of the earlier one", why.Makers(q, kind, key), makers)
				wantMarks(t, "undone in the earlier one", why.Undone(q, kind, key), undone)
				for _, m := range why.Undone(p, kind, key) {
					free[kind] += map[bool]int{true: 1}[slices.ContainsFunc(makers, func(x why.Mark) bool { return x.Of == m.Of })]
					fewer[kind] += map[bool]int{true: 1}[slices.ContainsFunc(undone, func(x why.Mark) bool { return x.Of == m.Of && len(x.By) < len(m.By) })]
				}
			}
		}
		if t.Failed() {
			t.Fatal(showAll(l))
		}
	}
	for _, kind := range kinds() {
		if free[kind] < 20 || fewer[kind] < 20 {
			t.Errorf("too much alike: of the kind %d, %d became undone, %d by more", kind, free[kind], fewer[kind])
		}
	}
}

// P25.1, P25.5: no operation is told twice, none is both a maker and undone, and none undoes itself, or another one twice.
func TestOnceEach(t *testing.T) {
	r := chance()
	for range 150 {
		l := soil{r: r, keys: []string{"k"}, most: 12}.grown(nil, r.IntN(20))
		p := pastOf(t, l)
		for _, kind := range kinds() {
			told := map[api.Ident]int{}
			for _, m := range everyMark(p, kind, "k") {
				told[m.Of]++
				by := map[api.Ident]int{m.Of: 1}
				for _, b := range m.By {
					by[b]++
				}
				if told[m.Of] > 1 || len(by) != len(m.By)+1 {
					t.Errorf("twice, or by itself: %s", show([]why.Mark{m}))
				}
			}
		}
	}
}

// P25.3: Lacks tells just those makers that the history at the heads doesn't have; at no heads all, at its own none.
func TestLacksFollows(t *testing.T) {
	r := chance()
	for range 150 {
		l := graph(r, r.IntN(25))
		p := pastOf(t, mixed(r, l))
		heads := some(r, l)
		q := pastAt(t, p, heads)
		for _, kind := range kinds() {
			for _, key := range keys() {
				all := why.Makers(p, kind, key)
				none, e := why.Lacks(p, p.Heads(), kind, key)
				every, e2 := why.Lacks(p, nil, kind, key)
				got, e3 := why.Lacks(p, heads, kind, key)
				if e != api.OK || e2 != api.OK || e3 != api.OK {
					t.Errorf("Lacks: %d, %d, %d", e, e2, e3)
				}
				wantMarks(t, "at its heads", none, nil)
				wantMarks(t, "at none", every, all)
				wantMarks(t, "at some", got, slices.DeleteFunc(all, func(m why.Mark) bool { return q.Number(m.Of.Node) >= 0 }))
			}
		}
		if t.Failed() {
			t.Fatal(showAll(l))
		}
	}
}

// P25.2, P25.5: in the history of a transaction alone, its own operations that nothing of its own undoes are makers, and nothing else is told of them.
func TestOwnAlone(t *testing.T) {
	r := chance()
	for range 100 {
		l := graph(r, 1+r.IntN(20))
		p := pastOf(t, l)
		h := any1(r, ids(l)...)
		q, e := why.Alone(p, h)
		if e != api.OK {
			t.Fatalf("Alone: %d", e)
		}
		if got := q.Heads(); !slices.Equal(got, []api.Hash{h}) {
			t.Errorf("heads of one alone: %x", got)
		}
		for _, kind := range kinds() {
			for _, m := range why.Undone(q, kind, "k") {
				if m.Of.Node == h && slices.ContainsFunc(m.By, func(b api.Ident) bool { return b.Node != h }) {
					t.Errorf("undone by such as it has seen: %s", show([]why.Mark{m}))
				}
			}
			makers, undone := leftAt(p, q, kind, "k")
			wantMarks(t, "alone: Makers", why.Makers(q, kind, "k"), makers)
			wantMarks(t, "alone: Undone", why.Undone(q, kind, "k"), undone)
		}
		if t.Failed() {
			t.Fatal(showAll(l))
		}
	}
}

// without tells entries with others in the stead of those operations that are so: such as are of no cell that is asked for, so that the numbers stay.
func without(l []api.Entry, is func(api.Op) bool) []api.Entry {
	l = slices.Clone(l)
	for i, x := range l {
		ops := slices.Clone(x.Node.Ops)
		for k, o := range ops {
			if is(o) {
				ops[k] = put("elsewhere", "")
			}
		}
		l[i].Node.Ops = ops
	}
	return l
}

// P25.1: the operations of other cells have nothing to do with what is told of one; without its own nothing is told.
func TestOthersChangeNothing(t *testing.T) {
	r := chance()
	for range 150 {
		l := graph(r, r.IntN(25))
		p, kind, key := pastOf(t, l), any1(r, kinds()...), any1(r, names()...)
		own := func(o api.Op) bool { return o.Key == key && op.Cell(o.Kind) == kind }
		alone := pastOf(t, without(l, func(o api.Op) bool { return !own(o) }))
		wantMarks(t, "its own alone: Makers", why.Makers(alone, kind, key), why.Makers(p, kind, key))
		wantMarks(t, "its own alone: Undone", why.Undone(alone, kind, key), why.Undone(p, kind, key))
		rest := pastOf(t, without(l, own))
		wantMarks(t, "without its own", everyMark(rest, kind, key), nil)
		if t.Failed() {
			t.Fatal(showAll(l))
		}
	}
}
