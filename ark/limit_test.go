package ark_test

import (
	"fmt"
	"slices"
	"testing"

	"pleach/api"
	"pleach/ark"
	"pleach/shelf"
)

// wide tells so many blocks without parents.
func wide(n int) []string {
	l := []string{}
	for i := range n {
		l = append(l, made(fmt.Sprint("wide", i), 1))
	}
	return l
}

// byHash tells blocks by their hashes, rising.
func byHash(l []string) []string {
	find := map[api.Hash]string{}
	for _, b := range l {
		find[hashOf(b)] = b
	}
	out := []string{}
	for _, h := range rising(hashesOf(l)) {
		out = append(out, find[h])
	}
	return out
}

// P13.2, P13.4: just MaxNodes blocks without parents are taken, and come back; one more is told where their number stands, ahead of all else.
func TestMostWide(t *testing.T) {
	l := byHash(wide(api.MaxNodes))
	wantBlocks(t, "MaxNodes", arkOf(l...), l...)
	s := shelf.New(nil)
	wantLoad(t, "MaxNodes", s, l, nil, l)
	wantArk(t, "MaxNodes", s, l...)
	wantBad(t, "one more", arkOf(byHash(append(l, a))...), api.ErrOver, 8)
	wantBad(t, "one more, which is no block", arkOf(append(l, "")...), api.ErrOver, 8)

	at := begins(l...)
	last := slices.Clone(l)
	last[4094], last[4095] = last[4095], last[4094]
	wantBad(t, "the last two in one another's place", arkOf(last...), api.ErrOrder, at[4094])
	wantBad(t, "the first one last", arkOf(append(slices.Clone(l[1:]), l[0])...), api.ErrOrder, at[0])
	first := begins(l[4095], l[0])[0] + 1 // the number of blocks has a byte more there
	wantBad(t, "the last one first", arkOf(append([]string{l[4095]}, l[:4095]...)...), api.ErrOrder, first)
	slices.Reverse(last)
	wantBad(t, "backwards", arkOf(last...), api.ErrOrder, first)
	twice := slices.Clone(l)
	twice[4095] = l[0]
	wantBad(t, "the first one again, last", arkOf(twice...), api.ErrOrder, begins(twice...)[4095])
}

// P13.2, P13.4: the longest row of parents that may be.
func TestLongestRow(t *testing.T) {
	l := []string{a}
	for i := 1; i < api.MaxNodes; i++ {
		l = append(l, made("row", i+1, l[i-1]))
	}
	s := shelf.New(nil)
	wantLoad(t, "a row", s, l, nil, l)
	wantArk(t, "a row", s, l...)
	lacks := slices.Delete(slices.Clone(l), 2000, 2001)
	wantBad(t, "one lacks", arkOf(lacks...), api.ErrOrder, begins(lacks...)[2000])
	low := below(l[4000], 1) // it may come first
	l[4095] = low
	why, at := api.ErrOrder, slices.IndexFunc(l, func(x string) bool { return less(hashOf(low), hashOf(x)) })
	wantBad(t, "a lesser one behind all", arkOf(l...), why, begins(l...)[at])
}

// P13.2: one with as many parents as may be.
func TestMostParents(t *testing.T) {
	l := byHash(wide(api.MaxParents))
	y := made("y", 2, l...)
	wantBlocks(t, "all ahead", arkOf(append(l, y)...), append(l, y)...)
	for i := range l {
		lacks := append(slices.Delete(slices.Clone(l), i, i+1), y)
		wantWrong(t, "one lacks", api.ErrOrder, api.MaxParents-1, lacks...)
	}
	late := made("y", 3, l...)
	wantWrong(t, "a clock", api.ErrClock, api.MaxParents, append(l, late)...)
}

// P13.3: a shelf that has no room among MaxNodes ends a Load; what was taken ahead of that stays.
func TestLoadFull(t *testing.T) {
	s := with(wide(api.MaxNodes - 2)...)
	l := []string{a, b, c}
	wantLoad(t, "two more", s, l, api.ErrMany, l[:2])
	if s.Len() != api.MaxNodes {
		t.Errorf("%d are held", s.Len())
	}
	wantLoad(t, "known ones", s, l[:2], nil, nil)
	wantLoad(t, "one more", s, l, api.ErrMany, nil)
	row := ark.Pack(s)
	if l, err := ark.Unpack(row); err != nil || len(l) != api.MaxNodes {
		t.Errorf("the ark of it: %v", err)
	}
	y := made("y", 2, a)
	s = with(append(wide(api.MaxNodes-2), c, y)...)
	wantLoad(t, "with followers", s, l, api.ErrMany, []string{a, y})
}
