package shelf_test

import (
	"slices"
	"strings"
	"testing"

	"pleach/api"
	"pleach/blocks"
	"pleach/disk"
	"pleach/shelf"
)

// keeper notes what it is asked to keep, and what of it it keeps; it writes over all that it is handed.
type keeper struct {
	asked, kept []string
	answer      func(b string) api.Errno
}

func (k *keeper) Keep(b []byte) api.Errno {
	row := string(b)
	k.asked = append(k.asked, row)
	fill(b, 0xee)
	e := k.answer(row)
	if e == api.OK {
		k.kept = append(k.kept, row)
	}
	return e
}

// content keeps all.
func content(string) api.Errno { return api.OK }

// but keeps all but one block, of which it answers that.
func but(row string, e api.Errno) func(string) api.Errno {
	return func(b string) api.Errno {
		if b == row {
			return e
		}
		return api.OK
	}
}

// over tells a shelf over a keeper that answers so, and the keeper; it was handed these blocks.
func over(answer func(string) api.Errno, l ...string) (*shelf.Shelf, *keeper) {
	k := &keeper{answer: answer}
	s := shelf.New(k)
	for _, b := range l {
		s.Take([]byte(b))
	}
	return s, k
}

// wantRows fails, if blocks aren't these.
func wantRows(t *testing.T, what string, got []string, want ...string) {
	t.Helper()
	if !slices.Equal(got, want) {
		t.Errorf("%s: %s; want %s", what, show(hashesOf(got)), show(hashesOf(want)))
	}
}

// wantDead fails, if a shelf takes anything, or asks its keeper, or doesn't tell all as before.
func wantDead(t *testing.T, s *shelf.Shelf, k *keeper) {
	t.Helper()
	k.answer = content
	asked := len(k.asked)
	for _, row := range []string{a, b, c, d, a2, a3, f, gone, made("new", 1), made("new", 2, a), made("new", 2, gone), "", "\x02", a + "\x00", strings.Repeat("\x01", api.MaxNode+1)} {
		wantRefused(t, s, row, api.ErrPower)
	}
	if len(k.asked) != asked {
		t.Error("a dead shelf has asked its keeper")
	}
}

// P12.1: the chapter's example with a keeper.
func TestKeeperExample(t *testing.T) {
	s, k := over(but(b, api.ErrRoom))
	wantWaits(t, s, b)
	wantWaits(t, s, c)
	wantTook(t, s, a, nil, b)
	wantAll(t, s, []string{a}, c)
	wantRows(t, "asked", k.asked, a, b)
}

// P12.1: a shelf without a keeper takes all that one takes whose keeper keeps all.
func TestNoKeeper(t *testing.T) {
	l := []string{f, c, b, a2, d, a, d, a, gone}
	s, k := over(content, l...)
	if look(s) != look(with(l...)) {
		t.Error("unlike shelves")
	}
	wantRows(t, "kept", k.kept, a2, a, b, c, f, gone)
}

// P12.1: Keep is asked for blocks that are about to be held alone, in that order: not for what waits, is known, is no block, or doesn't fit.
func TestAsked(t *testing.T) {
	s, k := over(content)
	for _, x := range []struct {
		row   string
		asked []string
	}{
		{"", nil}, {f, nil}, {f, nil}, {c, nil}, {a2, []string{a2}}, {a2, nil}, {made("w", 9, gone), nil}, {b, nil}, {d, nil},
		{a, []string{a, b, c, f}}, {b, nil}, {d, nil}, {a + "\x00", nil}, {made("y", 3, a2), nil}, {gone, []string{gone}}, {made("y", 2, a2), []string{made("y", 2, a2)}},
	} {
		k.asked = nil
		s.Take([]byte(x.row))
		wantRows(t, "asked", k.asked, x.asked...)
	}
}

// P12.1: what the keeper answers of one that comes is told, whatever number it is; nothing has changed, and it may come again.
func TestKeeperRefuses(t *testing.T) {
	for _, e := range []api.Errno{api.ErrArg, api.ErrMany, api.ErrRoom, api.ErrState, api.ErrAbsent, api.ErrClock, api.ErrHeads, -1, 8, 1000} {
		s, k := over(but(b, e), a, c)
		for range 3 {
			wantRefused(t, s, b, e)
		}
		wantAll(t, s, []string{a}, c)
		wantList(t, "Missing", s.Missing(), b)
		wantRows(t, "asked", k.asked, a, b, b, b)
		wantTook(t, s, a2, nil)
		k.answer = content
		wantTook(t, s, b, []string{c})
		wantRows(t, "kept", k.kept, a, a2, b, c)
	}
}

// P12.1: a follower that the keeper doesn't keep, for whatever reason but the power, is lost, and nothing else is; it may come again.
func TestKeeperRefusesFollower(t *testing.T) {
	y, z := made("y", 2, a), made("z", 2, a)
	for _, e := range []api.Errno{api.ErrArg, api.ErrMany, api.ErrRoom, api.ErrState, api.ErrClock, -1, 1000} {
		s, k := over(but(b, e), y, c, b, z)
		wantTook(t, s, a, []string{y, z}, b)
		wantAll(t, s, sortOrder(a, y, z), c)
		wantList(t, "Missing", s.Missing(), b)
		wantGone(t, s, b)
		wantRows(t, "asked", k.asked, a, y, b, z)
		wantRefused(t, s, b, e)
		k.answer = content
		wantTook(t, s, b, []string{c})
		wantRows(t, "kept", k.kept, a, y, z, b, c)
	}
}

// P12.1: a keeper isn't asked for what doesn't fit, so it can't refuse it: the clock is told.
func TestClockAheadOfKeeper(t *testing.T) {
	s, k := over(but(d, api.ErrRoom), a)
	wantRefused(t, s, d, api.ErrClock)
	s, k = over(but(d, api.ErrPower), d)
	wantTook(t, s, a, nil, d)
	wantRows(t, "asked", k.asked, a)
	wantTook(t, s, a2, nil)
}

// P12.1: the power goes at one that comes: it isn't held and doesn't wait, the answer is ErrPower alone, and the shelf is dead, but tells all as before.
func TestPower(t *testing.T) {
	s, k := over(but(b, api.ErrPower), a, c, f, a2)
	wantRefused(t, s, b, api.ErrPower)
	wantRows(t, "asked", k.asked, a, a2, b)
	wantGone(t, s, b)
	wantDead(t, s, k)
	wantAll(t, s, sortOrder(a, a2), c, f)
	wantList(t, "Missing", s.Missing(), b)
	wantList(t, "Heads", s.Heads(), sortBlocks(a, a2)...)

	s, k = over(but(a, api.ErrPower), b)
	wantRefused(t, s, a, api.ErrPower)
	wantDead(t, s, k)
	wantAll(t, s, nil, b)
}

// P12.1, P12.2: the power goes at a follower in the middle: what was held ahead of it stays held, what was lost ahead of it is lost, it waits where it did, and so do all that would have come behind it.
func TestPowerAtFollower(t *testing.T) {
	y, z, w := made("y", 2, a), made("z", 2, a), made("w", 2, gone)
	s, k := over(but(y, api.ErrPower), w, c, b, d, y, z, f)
	got, err := s.Take([]byte(a))
	if err != api.ErrPower || !sameTaken(got, api.Taken{}) {
		t.Errorf("Take: %s", showTaken(got, err))
	}
	wantRows(t, "asked", k.asked, a, b, c, y)
	wantAll(t, s, []string{a, b, c}, w, y, z, f)
	wantGone(t, s, d)
	wantList(t, "Heads", s.Heads(), c)
	wantList(t, "Missing", s.Missing(), sortBlocks(a2, gone)...)
	wantDead(t, s, k)
	wantAll(t, s, []string{a, b, c}, w, y, z, f)
	wantRows(t, "kept", k.kept, a, b, c)
}

// P12.1: at whichever block the power goes, what was kept is held and nothing else: a block is asked for ahead of its being held.
func TestPowerAtEach(t *testing.T) {
	l := []string{f, c, b, a2, a}
	order := []string{a2, a, b, c, f}
	for i, row := range order {
		s, k := over(but(row, api.ErrPower), l...)
		wantRows(t, "asked", k.asked, order[:i+1]...)
		wantRows(t, "kept", k.kept, order[:i]...)
		wantList(t, "held", rising(s.Order()), sortBlocks(order[:i]...)...)
		wantDead(t, s, k)
	}
}

// P12.1: a store of layer 9 is a keeper: what is held is what it has, as it was taken; room that lacks and power that goes are told.
func TestStore(t *testing.T) {
	dk, hand := disk.New(5*(16+len(f)) + 10)
	store, _ := blocks.Open(dk)
	s := shelf.New(store)
	big := blockOf(api.Node{Author: 1, Clock: 1, Ops: []api.Op{{Kind: api.OpPut, Key: "k", Text: strings.Repeat("v", 2000)}}})
	wantWaits(t, s, c)
	wantRefused(t, s, big, api.ErrRoom)
	wantTook(t, s, a, nil)
	wantTook(t, s, b, []string{c})
	wantStore(t, store, a, b, c)
	wantWaits(t, s, f)
	hand.Fuse(1)
	if _, err := s.Take([]byte(a2)); err != api.ErrPower {
		t.Errorf("at the follower: %v", err)
	}
	wantRefused(t, s, gone, api.ErrPower)
	wantAll(t, s, sortOrder(a, b, c, a2), f)
	wantStore(t, store, a, b, c, a2)
}

// wantStore fails, if a store has other blocks than these, or if an empty shelf that is handed them doesn't take each.
func wantStore(t *testing.T, store *blocks.Store, want ...string) {
	t.Helper()
	rows := []string{}
	s := shelf.New(nil)
	for _, row := range store.All() {
		rows = append(rows, string(row))
		wantTook(t, s, string(row), nil)
	}
	wantRows(t, "in the store", rows, want...)
}
