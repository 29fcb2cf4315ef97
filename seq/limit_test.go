package seq_test

import (
	"fmt"
	"slices"
	"strings"
	"testing"

	"pleach/api"
	"pleach/past"
	"pleach/seq"
)

// row tells so many entries each of which has the one ahead as its parent.
func row(n int, ops func(i int) []api.Op) []api.Entry {
	l := []api.Entry{}
	for i := range n {
		x := api.Entry{ID: number(i), Node: api.Node{Author: 1, Clock: i + 1, Ops: ops(i)}}
		if i > 0 {
			x.Node.Parents = []api.Hash{number(i - 1)}
		}
		l = append(l, x)
	}
	return l
}

// wide tells so many entries without parents.
func wide(n int, ops func(i int) []api.Op) []api.Entry {
	l := []api.Entry{}
	for i := range n {
		l = append(l, behind(number(i), nil, nil, ops(i)...))
	}
	return l
}

// ident names an operation of the transaction of a number.
func ident(i, op int) api.Ident { return api.Ident{Node: number(i), Op: op} }

// wantItems fails, if a list has other items; it tells none of them, since they may be many.
func wantItems(t *testing.T, what string, got []api.Item, want []api.Ident) {
	t.Helper()
	names := []api.Ident{}
	for _, x := range got {
		names = append(names, x.ID)
	}
	if !slices.Equal(names, want) {
		t.Errorf("%s: %d items, or others than the %d, or not in their order", what, len(got), len(want))
	}
}

// rowOf tells the names of the operations of a number of transactions from one on to one ahead of another one.
func rowOf(from, to, op int) []api.Ident {
	l := []api.Ident{}
	for i := from; i < to; i++ {
		l = append(l, ident(i, op))
	}
	return l
}

func reversed[T any](l []T) []T {
	l = slices.Clone(l)
	slices.Reverse(l)
	return l
}

// P17.1, P17.2: the longest row that may be: one list grows at its end, one at its beginning, one behind its first item, and of one each item goes when the next one comes.
func TestLongestRow(t *testing.T) {
	p := of(t, row(api.MaxNodes, func(i int) []api.Op {
		if i == 0 {
			return []api.Op{under("end", ins("x")), under("begin", ins("x")), under("first", ins("x")), under("last", ins("x"))}
		}
		return []api.Op{under("end", ins("x", ident(i-1, 1))), under("begin", ins("x")), under("first", ins("x", ident(0, 3))), under("last", ins("x", ident(i-1, 4))), under("last", del(ident(i-1, 4)))}
	}))
	for _, n := range []int{api.MaxNodes, 100} {
		q := at(t, p, []api.Hash{number(n - 1)})
		wantItems(t, "at the end", seq.Items(q, "end"), rowOf(0, n, 1))
		wantItems(t, "at the beginning", seq.Items(q, "begin"), reversed(rowOf(0, n, 2)))
		wantItems(t, "behind the first one", seq.Items(q, "first"), append(rowOf(0, 1, 3), reversed(rowOf(1, n, 3))...))
		wantItems(t, "the last one alone", seq.Items(q, "last"), rowOf(n-1, n, 4))
		wantItems(t, "the last one alone", seq.All(q, "last"), rowOf(0, n, 4))
		wantKeys(t, "the longest row", q, "begin", "end", "first", "last")
		l, _ := seq.Behind(q, "first", ident(0, 3))
		wantItems(t, "behind the first one", l, reversed(rowOf(1, n, 3)))
		l, _ = seq.Behind(q, "begin", api.Ident{})
		wantItems(t, "at the beginning", l, reversed(rowOf(0, n, 2)))
		l, _ = seq.Behind(q, "end", ident(n/2, 1))
		wantItems(t, "at the end", l, rowOf(n/2+1, n/2+2, 1))
	}
}

// P17.1: as many as may be that have not seen one another: each lays an item at the beginning, and one behind that; what they lay behind others', or delete of them, has no effect.
func TestWidest(t *testing.T) {
	want := []api.Ident{}
	for i := range api.MaxNodes {
		want = append(want, ident(api.MaxNodes-1-i, 1), ident(api.MaxNodes-1-i, 3))
	}
	l := wide(api.MaxNodes, func(i int) []api.Op {
		other := ident((i*7+1)%api.MaxNodes, 1)
		return []api.Op{ins("x"), ins("no", other), ins("y", own(1)), del(other)}
	})
	p := of(t, reversed(l))
	wantItems(t, "the widest", seq.Items(p, "k"), want)
	wantItems(t, "the widest", seq.All(p, "k"), want)
	behind, _ := seq.Behind(p, "k", api.Ident{})
	wantItems(t, "the widest", behind, reversed(rowOf(0, api.MaxNodes, 1)))
	wantErrAt(t, "the widest", p, "k", rowOf(0, 20, 2)...)
}

// P17.1, P17.3: as many as may be behind one item, without having seen one another, that one has seen by others which do nothing: it lays its own right behind it, and deletes those that it has seen.
func TestAllSeen(t *testing.T) {
	groups := api.MaxParents - 1
	n := groups*api.MaxParents - 1
	l := wide(1, func(int) []api.Op { return []api.Op{ins("x")} })
	for i := range n {
		l = append(l, behind(number(i+1), l[:1], []api.Hash{number(0)}, ins("y", ident(0, 1))))
	}
	middle := []api.Hash{}
	for i := range groups {
		from := l[i*api.MaxParents : (i+1)*api.MaxParents]
		middle = append(middle, number(5000+i))
		l = append(l, behind(middle[i], from, ids(from)))
	}
	dels := []api.Op{ins("z", ident(0, 1))}
	for i := range api.MaxOps - 1 {
		dels = append(dels, del(ident(i*4, 1)))
	}
	top := func(parents []api.Hash) *past.Past {
		p := of(t, append(l, behind(number(6000), l, parents, dels...)))
		if p.Len() != api.MaxNodes {
			t.Fatalf("%d entries", p.Len())
		}
		return p
	}
	all := append([]api.Ident{ident(0, 1), ident(6000, 1)}, reversed(rowOf(1, n+1, 1))...)
	left := func(from int) []api.Ident {
		return slices.DeleteFunc(slices.Clone(all), func(x api.Ident) bool {
			i := int(x.Node[1])<<8 + int(x.Node[2])
			return i%4 == 0 && i <= 4*(api.MaxOps-2) && (i == 0 || i >= from) && i != 6000
		})
	}
	wantItems(t, "all seen", seq.All(top(middle), "k"), all)
	wantItems(t, "all seen", seq.Items(top(middle), "k"), left(0))
	wantItems(t, "all seen but for one group", seq.All(top(middle[1:]), "k"), all)
	wantItems(t, "all seen but for one group", seq.Items(top(middle[1:]), "k"), left(api.MaxParents))
}

// P17.1: as long a chain as one transaction may lay, and chains through many of them.
func TestLongChains(t *testing.T) {
	const many = 64
	want := []api.Ident{}
	l := row(many, func(i int) []api.Op {
		ops := []api.Op{}
		for k := range api.MaxOps {
			o := ins("x")
			switch {
			case k > 0:
				o.At = own(k)
			case i > 0:
				o.At = ident(i-1, api.MaxOps)
			}
			ops, want = append(ops, o), append(want, ident(i, k+1))
		}
		return ops
	})
	p := of(t, l)
	wantItems(t, "a long chain", seq.Items(p, "k"), want)
	wantItems(t, "a long chain", seq.All(at(t, p, []api.Hash{number(0)}), "k"), want[:api.MaxOps])
	behind, e := seq.Behind(p, "k", ident(many-2, api.MaxOps))
	if e != api.OK {
		t.Errorf("Behind: %d", e)
	}
	wantItems(t, "behind the last number", behind, rowOf(many-1, many, 1))
	wantErrAt(t, "past the last number", p, "k", ident(0, api.MaxOps+1), ident(many-1, 0))
}

// P17.1, P17.2: as many items behind one as one transaction may lay, and half of them taken away by the next one.
func TestManyBehindOne(t *testing.T) {
	laid, left := []api.Ident{}, []api.Ident{ident(0, 1)}
	l := row(2, func(i int) []api.Op {
		ops := []api.Op{}
		for k := range api.MaxOps {
			switch {
			case i == 0 && k == 0:
				ops = append(ops, ins("x"))
			case i == 0:
				ops, laid = append(ops, ins("y", own(1))), append(laid, ident(0, k+1))
			case k%2 == 1:
				ops = append(ops, del(ident(0, k+1)))
			}
		}
		return ops
	})
	laid = reversed(laid)
	for _, x := range laid {
		if x.Op%2 == 1 {
			left = append(left, x)
		}
	}
	p := of(t, l)
	wantItems(t, "many behind one", seq.All(p, "k"), append([]api.Ident{ident(0, 1)}, laid...))
	wantItems(t, "many behind one", seq.Items(p, "k"), left)
	behind, _ := seq.Behind(p, "k", ident(0, 1))
	wantItems(t, "many behind one", behind, laid)
}

// P17.1: as many keys as a transaction may have, in several of them, half of whose lists show nothing in the end.
func TestManyKeys(t *testing.T) {
	want := []string{}
	name := func(i, k int) string { return fmt.Sprint(i, "/", k*31%api.MaxOps) }
	p := of(t, row(6, func(i int) []api.Op {
		ops := []api.Op{}
		for k := range api.MaxOps {
			if i%2 == 0 {
				ops = append(ops, under(name(i, k), ins("x")))
			} else if k%2 == 0 {
				ops = append(ops, under(name(i-1, k), del(ident(i-1, k+1))))
			} else {
				want = append(want, name(i-1, k))
			}
		}
		return ops
	}))
	wantKeys(t, "many keys", p, slices.Sorted(slices.Values(want))...)
	wantTexts(t, "shown", p, name(0, 1), "x", "x")
	wantTexts(t, "gone", p, name(0, 2), "", "x")
}

// P17.1, P17.2: the longest keys and texts that may be are told whole, and keys that are unlike at their last byte alone are two.
func TestLongest(t *testing.T) {
	key, text := strings.Repeat("k", api.MaxKey-1), strings.Repeat("\xff", api.MaxText-1)
	p := history(t, tx('a', "", under(key+"b", ins(text+"b")), under(key+"a", ins(text+"a")), under(key, ins("short"))),
		tx('b', "a", under(key+"b", ins(text, id('a', 1))), under(key+"a", ins("no", id('a', 1))), under(key+"a", del(id('a', 2)))))
	wantKeys(t, "the longest", p, key, key+"b")
	for name, want := range map[string][]api.Item{key + "b": {{ID: id('a', 1), Text: text + "b"}, {ID: id('b', 1), Text: text}}, key + "a": {{ID: id('a', 2), Text: text + "a"}}, key: {{ID: id('a', 3), Text: "short"}}, key + "ab": nil} {
		if !slices.Equal(seq.All(p, name), want) {
			t.Errorf("a key of %d bytes: %d items", len(name), len(seq.All(p, name)))
		}
	}
	wantErrAt(t, "another key", p, key+"a", id('a', 1), id('b', 1), id('b', 2))
	wantErrAt(t, "longer than a key may be", p, key+"ab", id('a', 1))
}
