package reg_test

import (
	"fmt"
	"slices"
	"strings"
	"testing"

	"pleach/api"
	"pleach/reg"
)

// row tells so many entries each of which has the one ahead as its parent, and puts its number.
func row(n int) []api.Entry {
	l := []api.Entry{}
	for i := range n {
		x := api.Entry{ID: number(i), Node: api.Node{Author: 1, Clock: i + 1, Ops: []api.Op{put("k", fmt.Sprint(i)), put(fmt.Sprint("of ", i), "x")}}}
		if i > 0 {
			x.Node.Parents = []api.Hash{number(i - 1)}
		}
		l = append(l, x)
	}
	return l
}

// wide tells so many entries without parents, each of which puts its number, with their texts.
func wide(n int) ([]api.Entry, []string) {
	l, texts := []api.Entry{}, []string{}
	for i := range n {
		texts = append(texts, fmt.Sprint(i))
		l = append(l, behind(number(i), nil, nil, put("k", texts[i])))
	}
	return l, texts
}

// P14.1: the longest row that may be: its last put alone is held, and one text a key of its own.
func TestLongestRow(t *testing.T) {
	p := of(t, row(api.MaxNodes))
	wantRead(t, "the longest row", p, "k", fmt.Sprint(api.MaxNodes-1))
	wantRead(t, "the longest row", p, "of 0", "x")
	if keys := reg.Keys(p); len(keys) != api.MaxNodes+1 || keys[0] != "k" || !slices.IsSorted(keys) {
		t.Errorf("%d keys", len(keys))
	}
	wantRead(t, "earlier", at(t, p, []api.Hash{number(99)}), "k", "99")
}

// P14.1: as many as may be that have not seen one another: each text is held.
func TestWidest(t *testing.T) {
	l, want := wide(api.MaxNodes)
	slices.Reverse(l)
	p := of(t, l)
	if got := reg.Read(p, "k"); !slices.Equal(got, want) {
		t.Errorf("%d texts, or others", len(got))
	}
	wantKeys(t, "the widest", p, "k")
}

// P14.1, P14.2: as many as may be, that one has seen by others which do nothing: one put, or clear, is all that is left.
func TestAllSeen(t *testing.T) {
	groups := api.MaxParents - 1
	l, texts := wide(groups * api.MaxParents)
	middle := []api.Hash{}
	for i := range groups {
		from := l[i*api.MaxParents : (i+1)*api.MaxParents]
		middle = append(middle, number(5000+i))
		l = append(l, behind(middle[i], from, ids(from)))
	}
	for _, last := range []api.Op{put("k", "last"), clean("k")} {
		left := []string{}
		if last.Kind == api.OpPut {
			left = append(left, last.Text)
		}
		p := of(t, append(l, behind(number(6000), l, middle, last)))
		if p.Len() != api.MaxNodes {
			t.Fatalf("%d entries", p.Len())
		}
		wantAll(t, "all seen", p, holds("k", left...))
		if got := reg.Read(at(t, p, middle), "k"); !slices.Equal(got, texts) {
			t.Errorf("ahead of it: %d texts, or others", len(got))
		}
		// One of the groups isn't seen: its texts stay.
		p = of(t, append(l, behind(number(6000), l, middle[1:], last)))
		wantAll(t, "all but one group seen", p, holds("k", slices.Concat(texts[:api.MaxParents], left)...))
	}
}

// P14.1: as many operations of one key in a transaction as may be, and in many of them: the last one of each counts.
func TestManyOperations(t *testing.T) {
	l, want := []api.Entry{}, []string{"old"}
	l = append(l, behind(number(0), nil, nil, put("k", "old")))
	for i := range 100 {
		ops := []api.Op{}
		for k := range api.MaxOps - 1 {
			ops = append(ops, put("k", fmt.Sprint(k)))
		}
		ops = append(ops, put("k", fmt.Sprint("last ", i)))
		if i%2 == 1 {
			ops[api.MaxOps-1] = clean("k")
		} else {
			want = append(want, fmt.Sprint("last ", i))
		}
		l = append(l, behind(number(i+1), nil, nil, ops...))
	}
	wantAll(t, "many operations", of(t, l), holds("k", want...))
}

// P14.1: the longest keys and texts that may be are told whole, and keys that are unlike at their last byte alone are two.
func TestLongest(t *testing.T) {
	long := strings.Repeat("k", api.MaxKey-1)
	text := strings.Repeat("\xff", api.MaxText)
	p := history(t, tx('a', "", put(long+"b", text), put(long+"a", text), put(long, "short")), tx('b', "a", put(long+"a", text[1:]+"0")))
	wantKeys(t, "the longest", p, long, long+"a", long+"b")
	wantRead(t, "the longest", p, long+"b", text)
	wantRead(t, "the longest", p, long+"a", text[1:]+"0")
	wantRead(t, "the longest", p, long, "short")
	wantRead(t, "longer than a key may be", p, long+"ab")
}
