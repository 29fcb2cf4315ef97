package ark

import (
	"bytes"
	"math/rand/v2"
	"slices"
	"testing"

	"pleach/api"
	"pleach/giveup"
)

// told tells what checkOrder gives up with, if it does.
func told(parts []part) (err error) {
	defer func() {
		if x := recover(); x != nil {
			err = giveup.Caught(x)
		}
	}()
	checkOrder(parts)
	return nil
}

// wordsOf tells it by the words of P13.2, each block held against each.
func wordsOf(parts []part) *api.Bad {
	for i, x := range parts {
		ahead := map[api.Hash]int{} // their clocks
		for _, y := range parts[:i] {
			ahead[y.vertex.ID] = y.vertex.Clock
		}
		is := func(h api.Hash) bool { return ahead[h] > 0 }
		lacks := func(v api.Vertex) bool {
			return slices.ContainsFunc(v.Parents, func(h api.Hash) bool { return !is(h) })
		}
		first := func(y part) bool {
			return bytes.Compare(y.vertex.ID[:], x.vertex.ID[:]) < 0 && !is(y.vertex.ID) && !lacks(y.vertex)
		}
		if is(x.vertex.ID) || lacks(x.vertex) || slices.ContainsFunc(parts[i+1:], first) {
			return &api.Bad{Why: api.ErrOrder, At: x.begin}
		}
		clock := 0
		for _, h := range x.vertex.Parents {
			clock = max(clock, ahead[h])
		}
		if len(x.vertex.Parents) > 0 && x.vertex.Clock != clock+1 {
			return &api.Bad{Why: api.ErrClock, At: x.begin}
		}
	}
	return nil
}

// someParts tells blocks of few hashes, so that some have one hash and unlike parents, or clocks; most have parents that stand ahead, and a clock that fits.
func someParts(r *rand.Rand) []part {
	l := []part{}
	for i := range r.IntN(9) {
		v := api.Vertex{ID: api.Hash{31: byte(r.IntN(20))}, Clock: 1}
		for range r.IntN(3) {
			p := part{vertex: api.Vertex{ID: api.Hash{31: byte(r.IntN(20))}, Clock: 1}}
			if len(l) > 0 && r.IntN(12) > 0 {
				p = l[r.IntN(len(l))]
			}
			if p.vertex.ID != v.ID && !slices.Contains(v.Parents, p.vertex.ID) {
				v.Parents = append(v.Parents, p.vertex.ID)
				v.Clock = max(v.Clock, p.vertex.Clock+1)
			}
		}
		if len(v.Parents) > 0 && r.IntN(20) == 0 {
			v.Clock = 2 + r.IntN(4)
		}
		slices.SortFunc(v.Parents, func(a, b api.Hash) int { return bytes.Compare(a[:], b[:]) })
		l = append(l, part{begin: 100 * i, vertex: v})
	}
	return inTurn(r, l)
}

// inTurn lays blocks mostly in the one order, as far as that goes.
func inTurn(r *rand.Rand, l []part) []part {
	out := []part{}
	for len(l) > 0 {
		best := -1
		for i, x := range l {
			lacks := slices.ContainsFunc(x.vertex.Parents, func(h api.Hash) bool {
				return !slices.ContainsFunc(out, func(y part) bool { return y.vertex.ID == h })
			})
			if !lacks && (best < 0 || bytes.Compare(x.vertex.ID[:], l[best].vertex.ID[:]) < 0) {
				best = i
			}
		}
		if best < 0 || r.IntN(20) == 0 {
			best = r.IntN(len(l))
		}
		l[best].begin = 100 * len(out)
		out = append(out, l[best])
		l = slices.Delete(l, best, best+1)
	}
	return out
}

// P13.2: the order of blocks is told as the words say, even where unlike blocks have one hash: no promise leans on there being none.
func TestClash(t *testing.T) {
	r := rand.New(rand.NewPCG(13, 13))
	came := map[api.Errno]int{}
	for range 300000 {
		l := someParts(r)
		want, got := wordsOf(l), told(l)
		if want == nil {
			if got != nil {
				t.Fatalf("%v: %v; want none", l, got)
			}
			came[api.OK]++
			continue
		}
		if bad, is := got.(*api.Bad); !is || *bad != *want {
			t.Fatalf("%v: %v; want %v", l, got, want)
		}
		came[want.Why]++
	}
	for _, why := range []api.Errno{api.OK, api.ErrOrder, api.ErrClock} {
		if came[why] < 1000 {
			t.Errorf("%v: only %d times", why, came[why])
		}
	}
}

// P13.2: blocks of one hash and unlike parents: what one of them lacks isn't made up for by the other.
func TestClashByHand(t *testing.T) {
	h := func(x byte) api.Hash { return api.Hash{31: x} }
	v := func(x byte, clock int, parents ...byte) part {
		p := part{vertex: api.Vertex{ID: h(x), Clock: clock}}
		for _, y := range parents {
			p.vertex.Parents = append(p.vertex.Parents, h(y))
		}
		return p
	}
	for _, x := range []struct {
		what string
		l    []part
		why  api.Errno
		at   int
	}{
		{"the first lacks a parent, the second doesn't", []part{v(1, 1), v(5, 2, 9), v(5, 2, 1), v(9, 1)}, api.ErrOrder, 1},
		{"a lesser one behind, another one of its hash comes later", []part{v(1, 1), v(7, 1), v(3, 2, 7), v(3, 2, 1)}, api.ErrOrder, 1},
		{"one of a hash that stands ahead, ready later", []part{v(1, 1), v(3, 2, 1), v(7, 1), v(9, 1), v(3, 2, 7)}, api.ErrOrder, 4},
	} {
		for i := range x.l {
			x.l[i].begin = i
		}
		if got, is := told(x.l).(*api.Bad); !is || *got != (api.Bad{Why: x.why, At: x.at}) {
			t.Errorf("%s: %v; want %v at %d", x.what, got, x.why, x.at)
		}
	}
}
