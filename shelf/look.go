package shelf

import (
	"bytes"

	"pleach/api"
	"pleach/node"
	"pleach/past"
)

// Has tells whether a transaction is held.
func (s *Shelf) Has(h api.Hash) bool { return s.graph.Has(h) }

// Waits tells whether a transaction waits.
func (s *Shelf) Waits(h api.Hash) bool { return s.graph.Waits(h) }

// Block tells the block of a held transaction.
func (s *Shelf) Block(h api.Hash) ([]byte, api.Errno) {
	if !s.Has(h) {
		return nil, api.ErrAbsent
	}
	return bytes.Clone(s.blocks[h]), api.OK
}

// Entry tells a held transaction.
func (s *Shelf) Entry(h api.Hash) (api.Entry, api.Errno) {
	if !s.Has(h) {
		return api.Entry{}, api.ErrAbsent
	}
	x, _ := node.Entry(s.blocks[h]) // it was read when it was taken: nothing is wrong with it
	return x, api.OK
}

// Heads tells the heads, rising.
func (s *Shelf) Heads() []api.Hash { return s.graph.Heads() }

// Missing tells the parents of waiting ones that neither are held nor wait, rising.
func (s *Shelf) Missing() []api.Hash { return s.graph.Missing() }

// Order tells all that is held, in the one order.
func (s *Shelf) Order() []api.Hash { return s.graph.Order() }

// Waiting tells those that wait, the oldest first.
func (s *Shelf) Waiting() []api.Hash { return s.graph.Waiting() }

// Len tells how many transactions are held.
func (s *Shelf) Len() int { return s.graph.Len() }

// Past tells the history of all that is held.
func (s *Shelf) Past() *past.Past {
	l := make([]api.Entry, 0, s.Len())
	for _, h := range s.Order() {
		x, _ := s.Entry(h)
		l = append(l, x)
	}
	p, _, _ := past.Of(l) // what is held is closed, and its clocks fit
	return p
}
