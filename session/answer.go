package session

import (
	"bytes"
	"errors"
	"slices"

	"pleach/api"
	"pleach/bloom"
	"pleach/msg"
	"pleach/shelf"
)

// answer is what is said to a message that may be, and what came of its blocks.
type answer func(s *shelf.Shelf, m api.Message) ([]api.Message, api.Taken, api.Errno)

// answerTable tells what is said to each kind of message.
func answerTable() map[int]answer {
	return map[int]answer{
		api.MsgHello:  toHello,
		api.MsgWant:   toWant,
		api.MsgBlocks: toBlocks,
	}
}

// toHello tells the other one what it lacks, as far as its digest tells, and asks for those of its heads that aren't known.
func toHello(s *shelf.Shelf, m api.Message) ([]api.Message, api.Taken, api.Errno) {
	out := blocksOf(s, func(h api.Hash) bool { return isNamed(m.Want, h) || !isInDigest(m, h) })
	if l := unknown(s, m.Heads); len(l) > 0 {
		out = append(out, api.Message{Kind: api.MsgWant, Want: l})
	}
	return out, api.Taken{}, api.OK
}

// toWant tells the other one what it asks for, as far as it is held.
func toWant(s *shelf.Shelf, m api.Message) ([]api.Message, api.Taken, api.Errno) {
	out := blocksOf(s, func(h api.Hash) bool { return isNamed(m.Want, h) })
	return out, api.Taken{}, api.OK
}

// toBlocks takes blocks, and says nothing to them. One that is refused keeps none of the others from being taken, unless the power is gone.
func toBlocks(s *shelf.Shelf, m api.Message) ([]api.Message, api.Taken, api.Errno) {
	var all api.Taken
	for _, b := range m.Blocks {
		t, err := s.Take(b)
		if errors.Is(err, api.ErrPower) {
			return nil, api.Taken{}, api.ErrPower
		}
		all.IDs = append(all.IDs, t.IDs...)
		all.Lost = append(all.Lost, t.Lost...)
	}
	return nil, all, api.OK
}

// blocksOf lays the blocks of those that are held and asked for into messages, in the one order, so that parents come ahead.
func blocksOf(s *shelf.Shelf, isAsked func(h api.Hash) bool) []api.Message {
	l := [][]byte{}
	for _, h := range s.Order() {
		if isAsked(h) {
			b, _ := s.Block(h) // what stands in the order is held
			l = append(l, b)
		}
	}
	out, _ := msg.Blocks(l) // what is held has a block that may be
	return out
}

// isNamed tells whether a hash is one of a list that rises.
func isNamed(l []api.Hash, h api.Hash) bool {
	_, is := slices.BinarySearchFunc(l, h, func(x, y api.Hash) int { return bytes.Compare(x[:], y[:]) })
	return is
}

// isInDigest tells whether the digest of a hello has a hash.
func isInDigest(m api.Message, h api.Hash) bool {
	is, _ := bloom.Has(m.Salt, m.Bloom, h) // a hello that may be has a right digest
	return is
}

// unknown tells those of some hashes that are neither held nor wait, in their order.
func unknown(s *shelf.Shelf, l []api.Hash) []api.Hash {
	var out []api.Hash
	for _, h := range l {
		if !s.Has(h) && !s.Waits(h) {
			out = append(out, h)
		}
	}
	return out
}
