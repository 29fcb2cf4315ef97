package dag_test

import (
	"bytes"
	"fmt"
	"math/rand/v2"
	"slices"
	"strings"

	"pleach/api"
)

// What the chapter's words say of a Dag, told in another way than the package does: held ones and waiting ones stand in two lists, each is looked for by going through all, who has seen whom is found by going up all ways, and the one order is laid anew each time, as DOC.md's words have it.

// model is a Dag.
type model struct {
	room       int
	held, wait []api.Vertex // in the order in which they came
}

// find tells the vertex of a hash in a list.
func find(l []api.Vertex, h api.Hash) (api.Vertex, bool) {
	for _, v := range l {
		if v.ID == h {
			return v, true
		}
	}
	return api.Vertex{}, false
}

func in(l []api.Vertex, h api.Hash) bool {
	_, is := find(l, h)
	return is
}

// allIn tells whether all of some hashes are those of vertices of a list.
func allIn(l []api.Vertex, hashes []api.Hash) bool {
	return !slices.ContainsFunc(hashes, func(h api.Hash) bool { return !in(l, h) })
}

// without tells a list without the vertex of a hash.
func without(l []api.Vertex, h api.Hash) []api.Vertex {
	out := []api.Vertex{}
	for _, v := range l {
		if v.ID != h {
			out = append(out, v)
		}
	}
	return out
}

// rise tells whether hashes rise strictly.
func rise(l []api.Hash) bool {
	for i := range l {
		if i > 0 && bytes.Compare(l[i-1][:], l[i][:]) >= 0 {
			return false
		}
	}
	return true
}

// rising tells hashes rising, each once.
func rising(l []api.Hash) []api.Hash {
	out := slices.Clone(l)
	slices.SortFunc(out, func(a, b api.Hash) int { return bytes.Compare(a[:], b[:]) })
	return slices.Compact(out)
}

// fits tells whether a vertex fits those that are held.
func (m *model) fits(v api.Vertex) bool {
	if len(v.Parents) == 0 {
		return v.Clock == 1
	}
	greatest := 0
	for _, h := range v.Parents {
		p, _ := find(m.held, h)
		if p.Clock > greatest {
			greatest = p.Clock
		}
	}
	return v.Clock == greatest+1
}

func (m *model) fit(v api.Vertex) (int, api.Errno) {
	switch {
	case in(m.held, v.ID), in(m.wait, v.ID):
		return api.Known, api.OK
	case len(v.Parents) > api.MaxParents, !rise(v.Parents):
		return 0, api.ErrParents
	case v.Clock < 1, v.Clock > api.MaxNodes, v.Clock == 1 && len(v.Parents) > 0, v.Clock != 1 && len(v.Parents) == 0:
		return 0, api.ErrClock
	case !allIn(m.held, v.Parents):
		return api.Waits, api.OK
	case !m.fits(v):
		return 0, api.ErrClock
	case len(m.held) == api.MaxNodes:
		return 0, api.ErrMany
	}
	return api.Took, api.OK
}

func (m *model) add(v api.Vertex) (int, []api.Hash, api.Errno) {
	how, e := m.fit(v)
	out := []api.Hash{}
	switch how {
	case api.Took:
		m.held = append(m.held, v)
	case api.Waits:
		m.wait = append(m.wait, v)
		for len(m.wait) > m.room {
			out = append(out, m.wait[0].ID)
			m.wait = m.wait[1:]
		}
	}
	return how, out, e
}

func (m *model) next() (api.Vertex, bool) {
	for _, v := range m.wait {
		if allIn(m.held, v.Parents) {
			return v, true
		}
	}
	return api.Vertex{}, false
}

func (m *model) ready(h api.Hash) api.Errno {
	v, is := find(m.wait, h)
	switch {
	case !is:
		return api.ErrAbsent
	case !allIn(m.held, v.Parents):
		return api.ErrState
	case !m.fits(v):
		return api.ErrClock
	case len(m.held) == api.MaxNodes:
		return api.ErrMany
	}
	return api.OK
}

func (m *model) settle(h api.Hash) (int, api.Errno) {
	v, _ := find(m.wait, h)
	switch e := m.ready(h); e {
	case api.OK:
		m.wait = without(m.wait, h)
		m.held = append(m.held, v)
		return api.Took, api.OK
	case api.ErrClock, api.ErrMany:
		m.wait = without(m.wait, h)
		return 0, e
	default:
		return 0, e
	}
}

func (m *model) forget(h api.Hash) bool {
	is := in(m.wait, h)
	m.wait = without(m.wait, h)
	return is
}

// seen tells all that a held one has seen.
func (m *model) seen(h api.Hash) []api.Hash {
	l := []api.Hash{}
	v, _ := find(m.held, h)
	for ways := v.Parents; len(ways) > 0; ways = ways[1:] {
		if p, _ := find(m.held, ways[0]); !slices.Contains(l, p.ID) {
			l = append(l, p.ID)
			ways = slices.Concat(ways, p.Parents)
		}
	}
	return l
}

func (m *model) heads() []api.Hash {
	l := []api.Hash{}
	all := []api.Hash{}
	for _, v := range m.held {
		all = append(all, m.seen(v.ID)...)
	}
	for _, v := range m.held {
		if !slices.Contains(all, v.ID) {
			l = append(l, v.ID)
		}
	}
	return rising(l)
}

func (m *model) missing() []api.Hash {
	l := []api.Hash{}
	for _, v := range m.wait {
		for _, h := range v.Parents {
			if !in(m.held, h) && !in(m.wait, h) {
				l = append(l, h)
			}
		}
	}
	return rising(l)
}

func (m *model) order() []api.Hash { return oneOrder(m.held) }

// oneOrder tells the one order of vertices: again and again, of all that aren't placed and whose parents are, the one of the least hash.
func oneOrder(left []api.Vertex) []api.Hash {
	placed := []api.Hash{}
	for len(left) > 0 {
		ready := []api.Hash{}
		for _, v := range left {
			if !slices.ContainsFunc(v.Parents, func(p api.Hash) bool { return !slices.Contains(placed, p) }) {
				ready = append(ready, v.ID)
			}
		}
		least := rising(ready)[0]
		placed = append(placed, least)
		left = without(left, least)
	}
	return placed
}

// ids tells the hashes of vertices.
func ids(l []api.Vertex) []api.Hash {
	out := []api.Hash{}
	for _, v := range l {
		out = append(out, v.ID)
	}
	return out
}

// chance makes numbers that are the same at each run.
func chance() *rand.Rand { return rand.New(rand.NewPCG(10, 7)) }

func one[T any](r *rand.Rand, l ...T) T { return l[r.IntN(len(l))] }

// number tells a hash by a number: those of greater numbers are greater, and all are below a.
func number(n int) api.Hash { return api.Hash{0, byte(n >> 8), byte(n)} }

// vertex tells a vertex.
func vertex(h api.Hash, clock int, parents ...api.Hash) api.Vertex {
	return api.Vertex{ID: h, Clock: clock, Parents: parents}
}

// show tells hashes for a failure's message, by the bytes that aren't 0.
func show(l []api.Hash) string {
	s := []string{}
	for i, h := range l {
		if i == 20 {
			s = append(s, fmt.Sprintf("..(%d hashes)", len(l)))
			break
		}
		s = append(s, fmt.Sprintf("%x", bytes.TrimRight(h[:], "\x00")))
	}
	return "[" + strings.Join(s, " ") + "]"
}

// showVertex tells a vertex for a failure's message.
func showVertex(v api.Vertex) string {
	return fmt.Sprintf("(%s, %d, %s)", show([]api.Hash{v.ID}), v.Clock, show(v.Parents))
}

// sameVertex tells whether two vertices are the same.
func sameVertex(a, b api.Vertex) bool {
	return a.ID == b.ID && a.Clock == b.Clock && slices.Equal(a.Parents, b.Parents)
}
