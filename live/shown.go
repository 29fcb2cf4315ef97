package live

import (
	"cmp"
	"slices"
	"strings"

	"pleach/api"
	"pleach/pack"
	"pleach/state"
)

// place is where a cell may stand.
type place struct {
	kind int
	key  string
}

// shown is what a history shows, place by place.
type shown struct {
	parts map[place]part // those that aren't empty
}

// nothing is what a history without entries shows.
func nothing() shown { return shown{parts: map[place]part{}} }

// take does the operations of the newest entry of a graph, and tells where they have changed something, in order. What they do at one place has nothing to do with the others.
func (s *shown) take(g *graph, e api.Entry) []place {
	var changed []place
	for at, l := range deeds(e) {
		p, is := s.parts[at]
		if !is {
			p = newPart(at.kind)
		}
		if p.take(g, l) {
			changed = append(changed, at)
		}
		if p.empty() {
			delete(s.parts, at)
		} else {
			s.parts[at] = p
		}
	}
	return inOrder(changed)
}

// Register tells the texts of a register.
func (s *shown) Register(key string) []string {
	texts, _, _, _ := state.Read(s.at(api.CellRegister, key))
	return texts
}

// Members tells the texts of a set, rising.
func (s *shown) Members(key string) []string {
	texts, _, _, _ := state.Read(s.at(api.CellSet, key))
	return texts
}

// Count tells a counter.
func (s *shown) Count(key string) int64 {
	_, n, _, _ := state.Read(s.at(api.CellCounter, key))
	return n
}

// Items tells the items that a list shows.
func (s *shown) Items(key string) []api.Item {
	_, _, items, _ := state.Read(s.at(api.CellList, key))
	return items
}

// Keys tells the keys of all cells of a kind, rising.
func (s *shown) Keys(kind int) []string {
	var keys []string
	for _, p := range s.places() {
		if p.kind == kind {
			keys = append(keys, p.key)
		}
	}
	return keys
}

// Cell tells the cell that stands under a kind and a key, and whether one does.
func (s *shown) Cell(kind int, key string) (api.Cell, bool) {
	c := s.at(kind, key)
	return c, c.Kind != api.CellNone
}

// Cells tells all cells, in order.
func (s *shown) Cells() []api.Cell {
	var l []api.Cell
	for _, p := range s.places() {
		l = append(l, s.at(p.kind, p.key))
	}
	return l
}

// copy tells the same; neither sees what is done to the other.
func (s *shown) copy() shown {
	c := nothing()
	for at, p := range s.parts {
		c.parts[at] = p.copy()
	}
	return c
}

// at tells the cell of a place; the zero one, if none stands there.
func (s *shown) at(kind int, key string) api.Cell {
	value := s.value(place{kind: kind, key: key})
	if value == nil {
		return api.Cell{}
	}
	return api.Cell{Kind: kind, Key: key, Value: value}
}

// value tells the Value of the cell of a place; nil, if none stands there.
func (s *shown) value(at place) []byte {
	p, is := s.parts[at]
	if !is || !p.stands() {
		return nil
	}
	o := pack.NewOut()
	p.lay(o)
	return o.Done()
}

// places tells where cells stand, in order.
func (s *shown) places() []place {
	var l []place
	for at, p := range s.parts {
		if p.stands() {
			l = append(l, at)
		}
	}
	return inOrder(l)
}

// inOrder brings places in the order of cells.
func inOrder(l []place) []place {
	slices.SortFunc(l, func(a, b place) int {
		return cmp.Or(cmp.Compare(a.kind, b.kind), strings.Compare(a.key, b.key))
	})
	return l
}
