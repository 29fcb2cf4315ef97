package shelf_test

import (
	"fmt"
	"slices"
	"testing"

	"pleach/api"
	"pleach/shelf"
)

// orphan tells the block of a transaction whose parent nobody has, one a number.
func orphan(i int) string { return made(fmt.Sprint("orphan", i), 2, gone) }

// orphans tells so many of them, from a number on.
func orphans(from, n int) []string {
	l := []string{}
	for i := range n {
		l = append(l, orphan(from+i))
	}
	return l
}

// wide tells so many blocks without parents.
func wide(n int) []string {
	l := []string{}
	for i := range n {
		l = append(l, made(fmt.Sprint("wide", i), 1))
	}
	return l
}

// P12.1, P12.2: just MaxWaiting wait; with each more the oldest one is lost, whichever it is.
func TestSixtyFifth(t *testing.T) {
	s, k := over(content)
	for i := range api.MaxWaiting {
		wantWaits(t, s, orphan(i))
	}
	wantAll(t, s, nil, orphans(0, api.MaxWaiting)...)
	for i := range 100 {
		wantWaits(t, s, orphan(api.MaxWaiting+i), orphan(i))
		wantGone(t, s, orphan(i))
		wantAll(t, s, nil, orphans(i+1, api.MaxWaiting)...)
	}
	if len(k.asked) != 0 {
		t.Error("the keeper was asked for what waits")
	}
	wantList(t, "Missing", s.Missing(), gone)
	wantTook(t, s, gone, orphans(100, api.MaxWaiting))
	wantWaits(t, s, made("again", 2, a))
}

// P12.1: what is lost for want of room is missed no more, if no other one names its parents; it may come again, as the youngest.
func TestLostForRoom(t *testing.T) {
	s := with(append([]string{b, c}, orphans(0, api.MaxWaiting-2)...)...)
	wantList(t, "Missing", s.Missing(), sortBlocks(a, gone)...)
	wantWaits(t, s, orphan(100), b)
	wantList(t, "c misses b now", s.Missing(), sortBlocks(b, gone)...)
	wantWaits(t, s, orphan(101), c)
	wantList(t, "Missing", s.Missing(), gone)
	wantWaits(t, s, b, orphan(0))
	wantKnown(t, s, b)
	wantWaits(t, s, orphan(0), orphan(1))
	wantTook(t, s, a, []string{b})
	wantWaits(t, s, c2of(b))
	wantAll(t, s, []string{a, b}, slices.Concat(orphans(2, api.MaxWaiting-4), []string{orphan(100), orphan(101), orphan(0), c2of(b)})...)
}

// c2of tells the block of one that lacks a parent, though it has another one that doesn't lack.
func c2of(b string) string { return made("c2", 3, b, gone) }

// P12.1: when MaxNodes are held, one more is refused, unless its clock is wrong, or it is known, or waits; the keeper isn't asked, and nothing has changed.
func TestFull(t *testing.T) {
	s, k := over(content, wide(api.MaxNodes-1)...)
	root := wide(1)[0]
	last := made("last", 2, root)
	if s.Len() != api.MaxNodes-1 {
		t.Fatalf("Len: %d", s.Len())
	}
	wantTook(t, s, last, nil)
	asked := len(k.asked)
	wantRefused(t, s, a, api.ErrMany)
	wantRefused(t, s, made("more", 3, last), api.ErrMany)
	wantRefused(t, s, made("more", 2, last), api.ErrClock)
	wantRefused(t, s, "", &api.Bad{Why: api.ErrShort})
	wantKnown(t, s, last)
	wantWaits(t, s, b)
	wantKnown(t, s, b)
	wantRefused(t, s, a, api.ErrMany)
	wantList(t, "Waiting", s.Waiting(), b)
	if len(k.asked) != asked || len(k.kept) != api.MaxNodes || s.Len() != api.MaxNodes {
		t.Errorf("%d asked, %d kept, %d held", len(k.asked), len(k.kept), s.Len())
	}
	if p := s.Past(); p.Len() != api.MaxNodes || !slices.Equal(p.Heads(), s.Heads()) {
		t.Error("Past")
	}
}

// P12.1: followers for which there is no room among MaxNodes are lost, in their order; the keeper isn't asked for them.
func TestFullFollowers(t *testing.T) {
	y, z := made("y", 2, a), made("z", 7, a)
	for _, room := range []int{1, 2, 3} {
		s, k := over(but(y, api.ErrRoom), wide(api.MaxNodes-room)...)
		for _, row := range []string{c, z, b, y} {
			wantWaits(t, s, row)
		}
		switch room {
		case 1:
			wantTook(t, s, a, nil, z, b, y)
			wantList(t, "Waiting", s.Waiting(), c)
			wantRows(t, "asked", k.asked[api.MaxNodes-room:], a)
		case 2:
			wantTook(t, s, a, []string{b}, z, c, y)
			wantList(t, "Waiting", s.Waiting())
			wantRows(t, "asked", k.asked[api.MaxNodes-room:], a, b)
		case 3:
			wantTook(t, s, a, []string{b, c}, z, y)
			wantRows(t, "asked", k.asked[api.MaxNodes-room:], a, b, c)
		}
		if s.Len() != api.MaxNodes {
			t.Errorf("Len: %d", s.Len())
		}
	}
}

// P12.1: the longest row of parents that may be is held, told and made a history.
func TestLongestRow(t *testing.T) {
	s := shelf.New(nil)
	row := []string{a}
	s.Take([]byte(a))
	for i := 1; i < api.MaxNodes; i++ {
		row = append(row, made("row", i+1, row[i-1]))
		if x, err := s.Take([]byte(row[i])); err != nil || x.How != api.Took {
			t.Fatalf("number %d: %s", i, showTaken(x, err))
		}
	}
	wantList(t, "Order", s.Order(), row...)
	wantList(t, "Heads", s.Heads(), row[api.MaxNodes-1])
	wantHeld(t, s, row[api.MaxNodes-1])
	if p := s.Past(); p.Len() != api.MaxNodes || !p.Sees(0, api.MaxNodes-1) {
		t.Error("Past")
	}
	wantRefused(t, s, made("more", api.MaxNodes, row[api.MaxNodes-1]), api.ErrClock)
}

// P12.1: one with as many parents as may be waits for the last of them.
func TestManyParents(t *testing.T) {
	l := wide(api.MaxParents)
	y := made("y", 2, l...)
	s := with(y)
	for _, row := range l[1:] {
		wantTook(t, s, row, nil)
		wantList(t, "Waiting", s.Waiting(), y)
	}
	wantList(t, "Missing", s.Missing(), l[0])
	wantTook(t, s, l[0], []string{y})
	wantList(t, "Heads", s.Heads(), y)
}
