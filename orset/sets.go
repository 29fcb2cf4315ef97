package orset

import (
	"slices"

	"pleach/api"
	"pleach/past"
)

// member is a text under a key.
type member struct{ key, text string }

// deed is an operation: the number of its transaction, and its own there.
type deed struct{ by, number int }

// sets is what was done with sets in a history. Each list is in the one order, and has the last deed of a transaction alone: what undoes the last add has seen those ahead of it, and the last remove or wipe has seen what those ahead of it have.
type sets struct {
	p       *past.Past
	adds    map[member][]deed
	removes map[member][]deed
	wipes   map[string][]deed // by keys
}

// read gathers those operations of a history that are wanted.
func read(p *past.Past, wanted func(api.Op) bool) *sets {
	s := &sets{p: p, adds: map[member][]deed{}, removes: map[member][]deed{}, wipes: map[string][]deed{}}
	for i, x := range p.All() {
		for k, o := range x.Node.Ops {
			if wanted(o) {
				s.gather(o, deed{by: i, number: k})
			}
		}
	}
	return s
}

// gather lays an operation to its like; those of other kinds have nothing to do with sets.
func (s *sets) gather(o api.Op, d deed) {
	m := member{key: o.Key, text: o.Text}
	switch o.Kind {
	case api.OpAdd:
		lay(s.adds, m, d)
	case api.OpRemove:
		lay(s.removes, m, d)
	case api.OpWipe:
		lay(s.wipes, o.Key, d)
	}
}

// lay puts a deed at the end of its list, in the place of one of the same transaction.
func lay[K comparable](all map[K][]deed, k K, d deed) {
	l := all[k]
	if end := len(l) - 1; end >= 0 && l[end].by == d.by {
		l[end] = d
		return
	}
	all[k] = append(l, d)
}

// members tells what all sets have, in no order.
func (s *sets) members() []member {
	var l []member
	for m := range s.adds {
		if s.has(m) {
			l = append(l, m)
		}
	}
	return l
}

// has tells whether a text was added so that no remove of it and no wipe has seen that. The last adds are asked first, since the fewest have seen them.
func (s *sets) has(m member) bool {
	for _, add := range slices.Backward(s.adds[m]) {
		if !s.seen(add, s.removes[m]) && !s.seen(add, s.wipes[m.key]) {
			return true
		}
	}
	return false
}

// seen tells whether one of a list has seen an add.
func (s *sets) seen(add deed, l []deed) bool {
	for _, d := range slices.Backward(l) {
		if d.by < add.by { // nor has any that stands ahead of it
			return false
		}
		if s.p.Sees(add.by, d.by) || d.by == add.by && d.number > add.number {
			return true
		}
	}
	return false
}
