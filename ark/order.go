package ark

import (
	"slices"

	"pleach/api"
	"pleach/giveup"
	"pleach/sha"
)

// line is the blocks of an ark, numbered from 0 on as they stand.
type line struct {
	parts []part
	first map[api.Hash]int // the number of the first one of each hash
}

// newLine numbers blocks.
func newLine(parts []part) line {
	first := map[api.Hash]int{}
	for i, x := range parts {
		if _, is := first[x.vertex.ID]; !is {
			first[x.vertex.ID] = i
		}
	}
	return line{parts: parts, first: first}
}

// checkOrder gives up at the first block that doesn't come next in the one order, or whose clock doesn't fit those of its parents.
func checkOrder(parts []part) {
	w := newLine(parts)
	due := w.due()
	var ready []api.Hash // rising: those that may come next, and don't stand ahead
	for i, x := range parts {
		ready = join(ready, due[i])
		h := x.vertex.ID
		if w.first[h] < i || w.turn(x.vertex) > i || ready[0] != h {
			giveup.At(api.ErrOrder, x.begin)
		}
		if w.clock(x.vertex) != x.vertex.Clock {
			giveup.At(api.ErrClock, x.begin)
		}
		ready = ready[1:]
	}
}

// turn tells the number from which on all parents of a vertex stand ahead; if one of them stands nowhere, that is behind all.
func (w line) turn(v api.Vertex) int {
	n := 0
	for _, h := range v.Parents {
		i, is := w.first[h]
		if !is {
			return len(w.parts)
		}
		n = max(n, i+1)
	}
	return n
}

// due tells for each number the hashes that may come from there on, whatever their clocks are, and don't stand ahead of it.
func (w line) due() [][]api.Hash {
	l := make([][]api.Hash, len(w.parts))
	for _, x := range w.parts {
		if n := w.turn(x.vertex); n <= w.first[x.vertex.ID] {
			l[n] = append(l[n], x.vertex.ID)
		}
	}
	return l
}

// clock tells the clock that fits a vertex, all of whose parents stand in the line.
func (w line) clock(v api.Vertex) int {
	last := 0
	for _, h := range v.Parents {
		last = max(last, w.parts[w.first[h]].vertex.Clock)
	}
	return last + 1
}

// join puts hashes among rising ones, each once.
func join(rising, l []api.Hash) []api.Hash {
	for _, h := range l {
		if at, is := slices.BinarySearchFunc(rising, h, sha.Compare); !is {
			rising = slices.Insert(rising, at, h)
		}
	}
	return rising
}
