package live_test

import (
	"fmt"
	"slices"
	"strings"
	"testing"

	"pleach/api"
	"pleach/live"
)

// line tells so many entries each of which has the one ahead as its parent.
func line(n int, ops func(i int) []api.Op) []api.Entry {
	l := wide(n, ops)
	for i := range l[1:] {
		l[i+1].Node.Clock, l[i+1].Node.Parents = i+2, []api.Hash{number(i)}
	}
	return l
}

// wide tells so many entries without parents.
func wide(n int, ops func(i int) []api.Op) []api.Entry {
	l := []api.Entry{}
	for i := range n {
		l = append(l, raw(number(i), 1, nil, ops(i)...))
	}
	return l
}

func nothingDone(int) []api.Op { return nil }

// ident names an operation of the transaction of a number.
func ident(i, op int) api.Ident { return api.Ident{Node: number(i), Op: op} }

// wantSummary fails, if an answer of many, or long, cells is another one than the history's; it tells none of them.
func wantSummary(t *testing.T, what string, v *live.Live, l []api.Entry) {
	t.Helper()
	p, s := pastOf(t, l), stateOf(t, l)
	if got, want := v.Cells(), s.Cells(); !slices.EqualFunc(got, want, sameCell) {
		t.Errorf("%s: Cells: %d, or others than the %d", what, len(got), len(want))
	}
	if !slices.Equal(v.Heads(), p.Heads()) || v.Len() != len(l) {
		t.Errorf("%s: Heads: %d; Len: %d; want %d, %d", what, len(v.Heads()), v.Len(), len(p.Heads()), len(l))
	}
}

// P24.1: MaxNodes entries are taken, and nothing more, whatever it is: ErrMany comes ahead of all other errors; a copy is as full.
func TestFull(t *testing.T) {
	last := api.MaxNodes - 1
	for what, l := range map[string][]api.Entry{"wide": wide(api.MaxNodes, nothingDone), "line": line(api.MaxNodes, nothingDone)} {
		v := of(t, l[:last]...)
		takes(t, v, l[0], api.ErrState)
		takes(t, v, api.Entry{}, api.ErrAuthor)
		takes(t, v, raw(api.Hash{'z'}, 2, letters("y")), api.ErrAbsent)
		takes(t, v, raw(api.Hash{'z'}, 3, []api.Hash{number(0)}), api.ErrClock)
		c := v.Copy()
		l[last].Node.Ops = []api.Op{put("k", "last")}
		takes(t, v, l[last], api.OK)
		was := pictureOf(v)
		wantSummary(t, what, v, l)
		wantCells(t, what+": Last", v.Last(), cell(1, "k", "01 04 6c617374"))
		for _, full := range []*live.Live{v, v.Copy()} {
			for _, x := range []api.Entry{
				raw(api.Hash{'z'}, 1, nil, put("k", "more")), raw(api.Hash{'z'}, 2, []api.Hash{number(0)}),
				l[0], l[last], {}, raw(api.Hash{'z'}, 2, letters("y")), raw(api.Hash{'z'}, 3, []api.Hash{number(0)}),
				raw(api.Hash{'z'}, 0, nil), raw(api.Hash{'z'}, 1, nil, api.Op{}), raw(api.Hash{'z'}, api.MaxNodes+1, []api.Hash{number(last)}),
			} {
				takes(t, full, x, api.ErrMany)
			}
			wantPicture(t, what+": full", full, was)
		}
		if c.Len() != last {
			t.Errorf("the copy: Len: %d", c.Len())
		}
		takes(t, c, raw(api.Hash{'z'}, 1, nil, put("k", "other")), api.OK)
		takes(t, c, l[last], api.ErrMany)
		wantPicture(t, what+": beside the copy", v, was)
	}
}

// P24.2, P24.3: the longest row that may be, each of which does something of each kind.
func TestLongestRow(t *testing.T) {
	l := line(api.MaxNodes, func(i int) []api.Op {
		text := fmt.Sprint(i)
		ops := []api.Op{put("k", text), add("k", text), incr("k", 1), ins("k", text), put(text, "x")}
		if i > 0 {
			ops[3].At = ident(i-1, 4)
		}
		if i%10 == 9 {
			ops = append(ops, del("k", ident(i-5, 4)), remove("k", fmt.Sprint(i-5)), reset(fmt.Sprint(i-5)))
		}
		return ops
	})
	v := live.New()
	for i, x := range l {
		takes(t, v, x, api.OK)
		last := v.Last()
		if want := 5 + i%10/9; len(last) != want || !strings.HasSuffix(string(last[0].Value), fmt.Sprint(i)) && last[0].Key == "k" {
			t.Fatalf("Last of %d: %d cells", i, len(last))
		}
		if i == 99 || i == api.MaxNodes/2 {
			wantSummary(t, "a part", v, l[:i+1])
		}
	}
	wantSummary(t, "the longest row", v, l)
	wantSummary(t, "its copy", v.Copy(), l)
	if n := v.Count("k"); n != api.MaxNodes || len(v.Items("k")) != len(v.Members("k")) || len(v.Register("k")) != 1 {
		t.Errorf("Count: %d, Items: %d, Members: %d", n, len(v.Items("k")), len(v.Members("k")))
	}
}

// P24.2, P24.5: as many as may be that have not seen one another, taken in several orders.
func TestWidest(t *testing.T) {
	l := wide(api.MaxNodes, func(i int) []api.Op {
		text := string(rune('a' + i%26))
		return []api.Op{reset("k"), put("k", text), wipe("k"), add("k", text), zero("k"), incr("k", int64(i)), ins("k", text), ins("k", text, self(7)), ins("k", text)}
	})
	back, some := slices.Clone(l), slices.Clone(l)
	slices.Reverse(back)
	r := chance()
	r.Shuffle(len(some), func(i, j int) { some[i], some[j] = some[j], some[i] })
	for what, order := range map[string][]api.Entry{"rising": l, "falling": back, "mixed": some} {
		v := of(t, order...)
		wantSummary(t, what, v, l)
		if len(v.Register("k")) != api.MaxNodes || len(v.Members("k")) != 26 || len(v.Items("k")) != 3*api.MaxNodes || v.Count("k") != api.MaxNodes*(api.MaxNodes-1)/2 {
			t.Errorf("%s: %d, %d, %d, %d", what, len(v.Register("k")), len(v.Members("k")), len(v.Items("k")), v.Count("k"))
		}
		if h := v.Heads(); len(h) != api.MaxNodes || h[0] != number(0) {
			t.Errorf("%s: %d heads", what, len(h))
		}
	}
}

// gathered tells so many that have not seen one another, others that have seen as many of them as may be parents, and one that has seen all.
func gathered(n int, ops func(i int) []api.Op) []api.Entry {
	l := wide(n, ops)
	joins := []api.Hash{}
	for from := 0; from < n; from += api.MaxParents {
		h := number(5000 + from)
		l = append(l, raw(h, 2, numbers(n)[from:min(n, from+api.MaxParents)]))
		joins = append(joins, h)
	}
	return append(l, raw(number(4999), 3, joins, ops(-1)...))
}

// P24.2, P24.3: many parents: one that has seen all undoes what all have done, one that names one too many is refused.
func TestManyParents(t *testing.T) {
	for _, n := range []int{2, 63, 64, 65, 1000, 63 * 64} {
		l := gathered(n, func(i int) []api.Op {
			if i < 0 {
				return []api.Op{put("k", "all"), wipe("k"), add("k", "all"), zero("k"), incr("k", 1), del("k", ident(0, 4)), ins("k", "all", ident(n-1, 4))}
			}
			return []api.Op{put("k", "x"), add("k", fmt.Sprint(i)), incr("k", 1), ins("k", "x")}
		})
		v := of(t, l[:len(l)-1]...)
		if v.Count("k") != int64(n) || len(v.Register("k")) != n || len(v.Members("k")) != n || len(v.Items("k")) != n {
			t.Errorf("%d: %d, %d, %d, %d", n, v.Count("k"), len(v.Register("k")), len(v.Members("k")), len(v.Items("k")))
		}
		takes(t, v, l[len(l)-1], api.OK)
		wantSummary(t, fmt.Sprint(n), v, l)
		wantCells(t, "Last", v.Last(), cell(1, "k", "01 03 616c6c"), cell(2, "k", "01 03 616c6c"), cell(3, "k", "02"), items("k", v.Items("k")...))
		if got := v.Items("k"); len(got) != n || got[0].ID != ident(n-1, 4) || got[1].Text != "all" {
			t.Errorf("%d: %d items", n, len(got))
		}
	}
	v := of(t, wide(api.MaxParents+1, nothingDone)...)
	takes(t, v, raw(api.Hash{'z'}, 2, numbers(api.MaxParents+1)), api.ErrParents)
	takes(t, v, raw(api.Hash{'z'}, 2, numbers(api.MaxParents)), api.OK)
	if h := v.Heads(); !slices.Equal(h, []api.Hash{number(api.MaxParents), {'z'}}) {
		t.Errorf("Heads: %x", h)
	}
}

// P24.2, P24.3: as many operations as a transaction may have, of one key, and of as many keys.
func TestManyOperations(t *testing.T) {
	l := entries(tx('a', ""), tx('b', "a"), tx('c', "a"), tx('d', "bc"))
	for i := range l {
		for k := range api.MaxOps {
			key := []string{"k", fmt.Sprint(k % 300)}[i%2]
			o := []api.Op{put(key, fmt.Sprint(k)), add(key, fmt.Sprint(k%50)), incr(key, int64(k)), ins(key, fmt.Sprint(k)), remove(key, "2"), zero(key)}[k*k%6]
			if o.Kind == api.OpInsert && i > 1 {
				o.At = id('a', k+1)
			}
			l[i].Node.Ops = append(l[i].Node.Ops, o)
		}
	}
	for _, order := range allOrders(l) {
		v := live.New()
		for i, x := range order {
			wantTaken(t, "many operations", v, order[:i], x)
		}
	}
	takes(t, of(t, l...), raw(api.Hash{'e'}, 1, nil, slices.Repeat([]api.Op{zero("k")}, api.MaxOps+1)...), api.ErrMany)
}

// P24.2: many keys, of which half go again.
func TestManyKeys(t *testing.T) {
	const many = 40
	key := func(i, k int) string { return fmt.Sprintf("%d/%d", i, k*31%api.MaxOps) }
	l := line(many, func(i int) []api.Op {
		ops := []api.Op{}
		for k := range api.MaxOps {
			now, last := key(i, k), key(i-1, k)
			if i%2 == 0 {
				ops = append(ops, []api.Op{put(now, "x"), add(now, "y"), incr(now, 2), ins(now, "z")}[k%4])
			} else if k < api.MaxOps/2 {
				ops = append(ops, []api.Op{reset(last), wipe(last), zero(last), del(last, ident(i-1, k+1))}[k%4])
			}
		}
		return ops
	})
	v := live.New()
	for i, x := range l {
		takes(t, v, x, api.OK)
		last := v.Last()
		gone := slices.DeleteFunc(slices.Clone(last), func(c api.Cell) bool { return len(c.Value) > 0 })
		if i%2 == 0 && (len(last) != api.MaxOps || len(gone) > 0) || i%2 == 1 && (len(last) != api.MaxOps/2 || len(gone) != len(last)) {
			t.Errorf("Last: %d cells, %d of them gone", len(last), len(gone))
		}
	}
	wantSummary(t, "many keys", v, l)
	for kind := api.CellRegister; kind <= api.CellList; kind++ {
		if n := len(v.Keys(kind)); n != many*api.MaxOps/16 {
			t.Errorf("Keys(%d): %d", kind, n)
		}
	}
}

// P24.2: the longest keys and texts that may be, and keys that are unlike at their last byte alone.
func TestLongest(t *testing.T) {
	key, text := strings.Repeat("k", api.MaxKey-1), strings.Repeat("\xff", api.MaxText-1)
	l := entries(
		tx('a', "", put(key+"b", text+"b"), add(key+"a", text+"a"), incr(key, 1), ins(key+"b", text+"c")),
		tx('b', "a", add(key+"a", text+"b"), put(key, ""), ins(key+"b", text+"d", id('a', 4)), ins(key+"a", "no", id('a', 4))),
		tx('c', "a", remove(key+"a", text+"a"), reset(key+"b"), zero(key+"b")))
	for _, order := range allOrders(l) {
		v := live.New()
		for i, x := range order {
			takes(t, v, x, api.OK)
			wantSummary(t, "the longest", v, order[:i+1])
		}
	}
	v := of(t, l...)
	if len(v.Register(key+"b")) != 0 || !slices.Equal(v.Members(key+"a"), []string{text + "b"}) || v.Count(key) != 1 || len(v.Items(key+"b")) != 2 {
		t.Error("the longest")
	}
}

// P24.2: lists of very many items, laid by many that have not seen one another, in whatever order these are taken.
func TestManyItems(t *testing.T) {
	ops := func(i int) []api.Op {
		out := []api.Op{}
		for k := range 100 {
			o := ins("k", "x")
			if k%3 == 0 && k > 0 {
				o.At.Op = k
			}
			out = append(out, o)
		}
		return append(out, del("k", self(7)))
	}
	l := wide(1000, ops)
	back := slices.Clone(l)
	slices.Reverse(back)
	v, u := of(t, l...), of(t, back...)
	wantSummary(t, "many items", v, l)
	wantSummary(t, "many items, backward", u, l)
	if n := len(v.Items("k")); n != 99*1000 {
		t.Errorf("%d items", n)
	}
}
