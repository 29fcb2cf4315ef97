package counts_test

import (
	"fmt"
	"math"
	"slices"
	"strings"
	"testing"

	"pleach/api"
	"pleach/past"
)

// row tells so many entries each of which has the one ahead as its parent.
func row(n int, ops func(i int) []api.Op) []api.Entry {
	l := []api.Entry{}
	for i := range n {
		x := api.Entry{ID: number(i), Node: api.Node{Author: 1, Clock: i + 1, Ops: ops(i)}}
		if i > 0 {
			x.Node.Parents = []api.Hash{number(i - 1)}
		}
		l = append(l, x)
	}
	return l
}

// wide tells so many entries without parents.
func wide(n int, ops func(i int) []api.Op) []api.Entry {
	l := []api.Entry{}
	for i := range n {
		l = append(l, behind(number(i), nil, nil, ops(i)...))
	}
	return l
}

// upToN tells the sum of the numbers from 1 on.
func upToN(n int64) int64 { return n * (n + 1) / 2 }

// P16.1: the longest row that may be: one counter grows, one is set to zero each time, one at every hundredth.
func TestLongestRow(t *testing.T) {
	p := of(t, row(api.MaxNodes, func(i int) []api.Op {
		n := int64(i) + 1
		ops := []api.Op{incr("all", n), zero("last"), incr("last", n), incr("none", n), zero("none"), incr("some", n)}
		if i%100 == 0 {
			ops = append(ops, zero("some"))
		}
		return ops
	}))
	n := int64(api.MaxNodes)
	wantAll(t, "the longest row", p, map[string]int64{"all": upToN(n), "last": n, "some": upToN(n) - upToN(4001)})
	wantAll(t, "earlier", at(t, p, []api.Hash{number(199)}), map[string]int64{"all": upToN(200), "last": 200, "some": upToN(200) - upToN(101)})
	wantAll(t, "at a zero", at(t, p, []api.Hash{number(200)}), map[string]int64{"all": upToN(201), "last": 201})
}

// P16.1: as many as may be that have not seen one another, half of which set to zero: all that is counted counts.
func TestWidest(t *testing.T) {
	var sum int64
	l := wide(api.MaxNodes, func(i int) []api.Op {
		n := int64(i) * (math.MaxInt64 / 3)
		if i%2 == 1 {
			return []api.Op{incr("k", n), zero("k")}
		}
		sum += n
		return []api.Op{zero("k"), incr("k", n)}
	})
	slices.Reverse(l)
	wantAll(t, "the widest", of(t, l), comes("k", sum))
}

// P16.1, P16.3: as many as may be, that one has seen by others which do nothing: nothing is left, or what it counts; where one group isn't seen, that one's numbers are.
func TestAllSeen(t *testing.T) {
	groups := api.MaxParents - 1
	middle := []api.Hash{}
	l := wide(groups*api.MaxParents, func(i int) []api.Op { return []api.Op{incr("k", int64(i)+1)} })
	for i := range groups {
		from := l[i*api.MaxParents : (i+1)*api.MaxParents]
		middle = append(middle, number(5000+i))
		l = append(l, behind(middle[i], from, ids(from)))
	}
	top := func(parents []api.Hash, ops ...api.Op) *past.Past {
		p := of(t, append(l, behind(number(6000), l, parents, ops...)))
		if p.Len() != api.MaxNodes {
			t.Fatalf("%d entries", p.Len())
		}
		return p
	}
	wantAll(t, "no zero", top(middle, incr("k", 1)), comes("k", upToN(int64(groups*api.MaxParents))+1))
	wantAll(t, "zero", top(middle, zero("k")), nil)
	wantAll(t, "counted and zero", top(middle, incr("k", 2), zero("k")), nil)
	wantAll(t, "zero and counted", top(middle, zero("k"), incr("k", 2)), comes("k", 2))
	wantAll(t, "zero but for one group", top(middle[1:], zero("k")), comes("k", upToN(api.MaxParents)))
}

// P16.1: as many operations of one key in a transaction as may be, and in many of them: each counts, from the last zero of each on.
func TestManyOperations(t *testing.T) {
	p := of(t, wide(100, func(i int) []api.Op {
		ops := []api.Op{}
		for range api.MaxOps {
			ops = append(ops, incr("k", 1))
		}
		if i%2 == 1 {
			ops[i] = zero("k")
		}
		return ops
	}))
	want := int64(50 * api.MaxOps)
	for i := 1; i < 100; i += 2 {
		want += int64(api.MaxOps - 1 - i)
	}
	wantAll(t, "many operations", p, comes("k", want))
}

// P16.2: as many keys as a transaction may have, in many of them, half of which come to 0.
func TestManyKeys(t *testing.T) {
	want := map[string]int64{}
	p := of(t, row(12, func(i int) []api.Op {
		ops := []api.Op{}
		for k := range api.MaxOps {
			key := fmt.Sprint((k*31 + i) % 1200)
			o := incr(key, int64(i%3-1))
			if k%7 == 0 {
				o = zero(key)
			}
			want[key] += o.N
			if o.Kind == api.OpZero {
				want[key] = 0
			}
			ops = append(ops, o)
		}
		return ops
	}))
	for key, n := range want {
		if n == 0 {
			delete(want, key)
		}
	}
	if len(want) < 400 || len(want) > 1100 {
		t.Fatalf("%d keys", len(want))
	}
	wantAll(t, "many keys", p, want)
}

// P16.1, P16.2: the longest keys that may be are told whole, and such as are unlike at their last byte alone are two.
func TestLongestKeys(t *testing.T) {
	key := strings.Repeat("k", api.MaxKey-1)
	p := history(t, tx('a', "", incr(key+"b", 1), incr(key+"a", 2), incr(key, 4), incr(key[1:], 8)), tx('b', "a", zero(key+"a"), incr(key+"b", 16), incr(key+"a", 32)))
	wantAll(t, "the longest", p, map[string]int64{key[1:]: 8, key: 4, key + "a": 32, key + "b": 17})
	wantKeys(t, "the longest", p, key[1:], key, key+"a", key+"b")
	wantValue(t, "longer than a key may be", p, key+"ab", 0)
}
