package orset_test

import (
	"fmt"
	"slices"
	"strings"
	"testing"

	"pleach/api"
	"pleach/orset"
	"pleach/past"
)

// row tells so many entries each of which has the one ahead as its parent.
func row(n int, ops func(i int) []api.Op) []api.Entry {
	l := []api.Entry{}
	for i := range n {
		x := api.Entry{ID: number(i), Node: api.Node{Author: 1, Clock: i + 1, Ops: ops(i)}}
		if i > 0 {
			x.Node.Parents = []api.Hash{number(i - 1)}
		}
		l = append(l, x)
	}
	return l
}

// wide tells so many entries without parents.
func wide(n int, ops func(i int) []api.Op) []api.Entry {
	l := []api.Entry{}
	for i := range n {
		l = append(l, behind(number(i), nil, nil, ops(i)...))
	}
	return l
}

// text tells a number so that greater ones come later.
func text(i int) string { return fmt.Sprintf("%06d", i) }

// wantMembers fails, if a set of many texts has others, by Members or by Keys; it tells no text.
func wantMembers(t *testing.T, what string, p *past.Past, key string, want []string) {
	t.Helper()
	if got := orset.Members(p, key); !slices.Equal(got, want) {
		t.Errorf("%s: %d texts, or others than the %d", what, len(got), len(want))
	}
	if slices.Contains(orset.Keys(p), key) != (len(want) > 0) {
		t.Errorf("%s: Keys", what)
	}
}

// P15.1: the longest row that may be: each adds a text and the same one, and removes the text of the one ahead.
func TestLongestRow(t *testing.T) {
	p := of(t, row(api.MaxNodes, func(i int) []api.Op {
		return []api.Op{remove("s", text(i-1)), add("s", text(i)), add("same", "x"), add("all", text(i))}
	}))
	last := []string{}
	for i := range api.MaxNodes {
		last = append(last, text(i))
	}
	wantMembers(t, "the last one alone", p, "s", last[api.MaxNodes-1:])
	wantMembers(t, "the same one", p, "same", []string{"x"})
	wantMembers(t, "all", p, "all", last)
	wantKeys(t, "the longest row", p, "all", "s", "same")
	earlier := at(t, p, []api.Hash{number(99)})
	wantMembers(t, "earlier", earlier, "s", last[99:100])
	wantMembers(t, "earlier", earlier, "all", last[:100])
}

// P15.1, P15.3: in the longest row that may be one adds and one undoes in turn.
func TestInTurn(t *testing.T) {
	for _, undo := range []api.Op{remove("s", "x"), wipe("s")} {
		p := of(t, row(api.MaxNodes, func(i int) []api.Op {
			return []api.Op{any2(i%2 == 0, add("s", "x"), undo)}
		}))
		wantAll(t, "undone in the end", p, nil)
		wantAll(t, "added in the end", at(t, p, []api.Hash{number(api.MaxNodes - 2)}), has("s", "x"))
	}
}

func any2[T any](is bool, one, other T) T {
	if is {
		return one
	}
	return other
}

// P15.1, P15.3: as many as may be that have not seen one another, half of which remove and wipe: each text is there.
func TestWidest(t *testing.T) {
	want := []string{}
	l := wide(api.MaxNodes, func(i int) []api.Op {
		if i%2 == 1 {
			return []api.Op{wipe("s"), remove("s", "x"), remove("s", text(i-1))}
		}
		want = append(want, text(i))
		return []api.Op{add("s", "x"), add("s", text(i))}
	})
	slices.Reverse(l)
	wantMembers(t, "the widest", of(t, l), "s", append(want, "x"))
}

// P15.1, P15.3: as many as may be, that one has seen by others which do nothing: nothing is left, or what it adds; where one group isn't seen, that one's texts are.
func TestAllSeen(t *testing.T) {
	groups := api.MaxParents - 1
	texts, middle := []string{}, []api.Hash{}
	l := wide(groups*api.MaxParents, func(i int) []api.Op {
		texts = append(texts, text(i))
		return []api.Op{add("s", text(i)), add("s", "x")}
	})
	for i := range groups {
		from := l[i*api.MaxParents : (i+1)*api.MaxParents]
		middle = append(middle, number(5000+i))
		l = append(l, behind(middle[i], from, ids(from)))
	}
	top := func(parents []api.Hash, ops ...api.Op) *past.Past {
		p := of(t, append(l, behind(number(6000), l, parents, ops...)))
		if p.Len() != api.MaxNodes {
			t.Fatalf("%d entries", p.Len())
		}
		return p
	}
	wantMembers(t, "x removed", top(middle, remove("s", "x")), "s", texts)
	wantMembers(t, "x removed where it has seen all but one group", top(middle[1:], remove("s", "x")), "s", append(slices.Clone(texts), "x"))
	wantMembers(t, "wiped", top(middle, wipe("s")), "s", nil)
	wantMembers(t, "wiped and added", top(middle, wipe("s"), add("s", "x")), "s", []string{"x"})
	wantMembers(t, "wiped but for one group", top(middle[1:], wipe("s")), "s", append(slices.Clone(texts[:api.MaxParents]), "x"))
}

// P15.1: as many operations of one key in a transaction as may be, and in many of them: the last ones of each count.
func TestManyOperations(t *testing.T) {
	want := []string{}
	p := of(t, wide(100, func(i int) []api.Op {
		ops := []api.Op{}
		for range api.MaxOps / 2 {
			ops = append(ops, add("s", text(i)), any2(i%3 == 0, wipe("s"), remove("s", text(i))))
		}
		if i%2 == 1 {
			want = append(want, text(i))
			ops[api.MaxOps-1] = add("s", text(i))
		}
		return ops
	}))
	wantMembers(t, "many operations", p, "s", want)
}

// P15.1: the longest keys and texts that may be are told whole, and such as are unlike at their last byte alone are two.
func TestLongest(t *testing.T) {
	key, text := strings.Repeat("k", api.MaxKey-1), strings.Repeat("\xff", api.MaxText-1)
	p := history(t, tx('a', "", add(key+"b", text+"b"), add(key+"b", text+"a"), add(key+"b", text), add(key, "short")), tx('b', "a", add(key+"a", text+"a"), remove(key+"b", text+"a")))
	wantKeys(t, "the longest", p, key, key+"a", key+"b")
	wantSet(t, "the longest", p, key+"b", text, text+"b")
	wantSet(t, "the longest", p, key+"a", text+"a")
	wantSet(t, "the longest", p, key, "short")
	wantSet(t, "longer than a key may be", p, key+"ab")
	if orset.Has(p, key+"b", text+"ba") {
		t.Error("longer than a text may be")
	}
}
