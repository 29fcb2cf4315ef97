package session_test

import (
	"fmt"
	"slices"
	"strings"
	"testing"

	"pleach/api"
	"pleach/blocks"
	"pleach/disk"
	"pleach/session"
	"pleach/shelf"
)

// refuser is a keeper that keeps all but some blocks, of which it answers that.
type refuser map[string]api.Errno

func (k refuser) Keep(b []byte) api.Errno { return k[string(b)] }

// wantPower fails, if a message of blocks isn't answered with ErrPower alone.
func wantPower(t *testing.T, what string, s *shelf.Shelf, l ...string) {
	t.Helper()
	out, taken, e := session.Answer(s, blocksMsg(l...))
	wantSame(t, what, out, taken, e, nil, api.Taken{}, api.ErrPower)
}

// P20.2: blocks are taken one by one, in their order; those that are held now are told as they were taken, How is none.
func TestTakes(t *testing.T) {
	s := with()
	wantTakes(t, "one", s, []string{a}, []string{a})
	wantTakes(t, "more", s, []string{a3, b, a2, c}, []string{a3, b, a2, c})
	wantTakes(t, "known ones", s, []string{a, c, a2}, nil)
	wantTakes(t, "known ones and one more", s, []string{a, f, a2}, []string{f})
	wantAll(t, "all", s, []string{a, b, c, a2, a3, f})
}

// P20.2: what lacks a parent waits, and is told when it is held, behind what it waited for; in one message, or in several.
func TestTakesFollowers(t *testing.T) {
	s := with()
	wantTakes(t, "backwards", s, []string{f, c, b, a2, a}, []string{a2, a, b, c, f})
	s = with()
	wantTakes(t, "the last ones", s, []string{f, c}, nil)
	wantAll(t, "the last ones", s, nil, f, c)
	wantTakes(t, "others", s, []string{a2, b}, []string{a2})
	wantAll(t, "others", s, []string{a2}, f, c, b)
	wantTakes(t, "the first one, and one more", s, []string{a, a3}, []string{a, b, c, f, a3})
	wantAll(t, "all", s, []string{a, b, c, a2, a3, f})
}

// P20.2: the same block twice, held or waiting, is taken once.
func TestTakesTwice(t *testing.T) {
	s := with()
	wantTakes(t, "held", s, []string{a, a, b, a, b}, []string{a, b})
	wantTakes(t, "waiting", s, []string{f, f, c, c, f, a2}, []string{c, a2, f})
	wantTakes(t, "a follower, again", s, []string{made("y", 5, f), f, made("y", 5, f)}, []string{made("y", 5, f)})
	wantAll(t, "all", s, []string{a, b, c, a2, f, made("y", 5, f)})
}

// P20.2: what the shelf refuses is passed over, wherever it stands: what is no block, what doesn't fit, what the keeper doesn't keep; the others are taken. (Ahead of its parent it waits, and is lost.)
func TestPassedOver(t *testing.T) {
	y := made("y", 2, a)
	formless := []string{"\x00", "\x09", a + "\x00", a[:len(a)-1], strings.Repeat("\x01", api.MaxNode)}
	others := []string{d, made("e", 9, a), y}
	l := []string{a, b, a2, c}
	for _, x := range slices.Concat(formless, others) {
		for i := range len(l) + 1 {
			what := fmt.Sprintf("%.20q at %d", x, i)
			s := over(refuser{y: api.ErrRoom})
			lost := []string{}
			if i == 0 && slices.Contains(others, x) {
				lost = append(lost, x)
			}
			wantTakes(t, what, s, slices.Insert(slices.Clone(l), i, x), l, lost...)
			wantAll(t, what, s, l)
		}
	}
	s := over(refuser{y: api.ErrRoom}, a)
	bad := slices.Concat(formless[:4], others)
	wantTakes(t, "each refused", s, bad, nil)
	wantAll(t, "each refused", s, []string{a})
	wantTakes(t, "refused between", s, slices.Concat(bad, []string{b}, bad, []string{c}, bad), []string{b, c})
	wantAll(t, "refused between", s, []string{a, b, c})
}

// P20.2: whatever number the keeper answers, but ErrPower, the block is passed over, and may come again.
func TestKeeperRefuses(t *testing.T) {
	for _, e := range []api.Errno{api.ErrArg, api.ErrMany, api.ErrBytes, api.ErrRoom, api.ErrState, api.ErrAbsent, api.ErrHeads, -7, 70, 1000} {
		k := refuser{b: e}
		s := over(k)
		wantTakes(t, "refused", s, []string{a, b, c, a2, b}, []string{a, a2})
		wantAll(t, "refused", s, []string{a, a2}, c)
		k[b] = api.OK
		wantTakes(t, "again", s, []string{a3, b}, []string{a3, b, c})
	}
}

// P20.2: those that are lost are told, of all blocks one behind the other: for their clocks, for want of room at the keeper, or among the waiting ones.
func TestLost(t *testing.T) {
	e, g, y := made("e", 9, a), made("g", 5, b), made("y", 2, a)
	s := over(refuser{y: api.ErrRoom}, d, g, c, e, y)
	wantTakes(t, "lost", s, []string{a2, a, a3, b}, []string{a2, a, a3, b, c}, d, e, y, g)
	wantAll(t, "lost", s, []string{a, b, c, a2, a3})

	orphans := []string{}
	for i := range api.MaxWaiting + 5 {
		orphans = append(orphans, made(fmt.Sprint("orphan", i), 2, gone))
	}
	s = with(a)
	wantTakes(t, "too many wait", s, slices.Concat(orphans[:60], []string{b}, orphans[60:], []string{c}), []string{b, c}, orphans[:5]...)
	wantAll(t, "too many wait", s, []string{a, b, c}, orphans[5:]...)
	wantTakes(t, "one more, and their parent", s, []string{orphans[0], orphans[5], gone}, append([]string{gone}, append(slices.Clone(orphans[7:]), orphans[0], orphans[5])...), orphans[5], orphans[6])
}

// P20.2: among MaxNodes there is no room for more: what comes then is passed over, what waits for it is lost.
func TestFull(t *testing.T) {
	y := made("y", 2, a)
	s := with(append(wide(api.MaxNodes-2), y, c)...)
	wantTakes(t, "full", s, []string{a2, a, b, a3, gone}, []string{a2, a}, y)
	if s.Len() != api.MaxNodes || !slices.Equal(s.Waiting(), hashesOf([]string{c})) {
		t.Errorf("%d are held, %s wait", s.Len(), show(s.Waiting()))
	}
}

// P20.2: at whichever block the power goes: ErrPower alone; what was taken ahead of it stays taken, what comes behind it isn't asked for; from then on every message of blocks is answered so.
func TestPowerAtEach(t *testing.T) {
	l := []string{f, a, "\x09", b, a2, a, c, a3}
	taken := []string{a, b, a2, c, f, a3} // f follows c
	for i, x := range taken {
		k := &script{answers: append(make([]api.Errno, i), api.ErrPower)}
		s := over(k)
		wantPower(t, "at one", s, l...)
		waits := []string{}
		if i < 5 {
			waits = []string{f}
		}
		wantAll(t, fmt.Sprint("at ", i), s, taken[:i], waits...)
		if len(k.asked) != i+1 || k.asked[i] != x {
			t.Errorf("at %d: %d blocks were asked for", i, len(k.asked))
		}
		was := look(s)
		for _, m := range [][]string{l, {a}, {gone}, {"\x09"}, {f}, {made("w", 2, gone)}} {
			wantPower(t, "dead", s, m...)
		}
		if look(s) != was || len(k.asked) != i+1 {
			t.Errorf("at %d: a dead shelf has changed", i)
		}
	}
}

// P20.2: what the keeper refuses ahead of the power's going is passed over, and what was lost ahead of it is lost, though nothing tells it.
func TestPowerBehindOthers(t *testing.T) {
	y := made("y", 2, a)
	s := over(refuser{b: api.ErrRoom, c: api.ErrPower, y: api.ErrRoom, a3: api.ErrPower}, y, d, made("w", 2, gone))
	wantPower(t, "behind others", s, "\x09", a, b, c, d, a2, a3, gone)
	wantAll(t, "behind others", s, []string{a, a2}, made("w", 2, gone), c)
}

// script is a keeper that answers one thing behind the other, then OK, and notes what it was asked for.
type script struct {
	answers []api.Errno
	asked   []string
}

func (k *script) Keep(b []byte) api.Errno {
	k.asked = append(k.asked, string(b))
	if n := len(k.asked); n <= len(k.answers) {
		return k.answers[n-1]
	}
	return api.OK
}

// P20.2: over a store of layer 9, the power cut at each act of its disk; opened again, what was told to be taken before is there, when it was synced.
func TestStorePower(t *testing.T) {
	l := []string{c, a, b, a2, f}
	taken := []string{a, b, c, a2, f}
	for at := range len(taken) {
		dk, hand := disk.New(1 << 16)
		store, _ := blocks.Open(dk)
		s := over(store, a3)
		store.Sync()
		hand.Fuse(at)
		wantPower(t, fmt.Sprint("at act ", at), s, l...)
		held := append([]string{a3}, taken[:at]...)
		waits := [][]string{{c}, {c}, {c}, nil, nil}[at]
		wantAll(t, fmt.Sprint("at act ", at), s, held, waits...)
		if store.Len() != len(held) {
			t.Errorf("at act %d: the store has %d", at, store.Len())
		}
		wantPower(t, "dead", s, a3)
		hand.Crash(nil)
		if store, e := blocks.Open(dk); e != api.OK || store.Len() != 1 || !store.Has(hashOf(a3)) {
			t.Errorf("at act %d: opened again: %d", at, e)
		}
	}
	dk, hand := disk.New(1 << 16)
	store, _ := blocks.Open(dk)
	s := over(store)
	hand.Fuse(len(taken))
	wantTakes(t, "no act more", s, l, taken)
	if hand.Out() || hand.Acts() != len(taken) {
		t.Errorf("%d acts", hand.Acts())
	}
	wantSaid(t, "no act", s, helloMsg(none(), gone), blocksMsg(sorted(taken...)...), wantMsg(gone))
	wantSaid(t, "no act", s, wantMsg(a, gone), blocksMsg(a))
	session.Hello(s, 1)
	wantTakes(t, "no act", s, []string{a, "\x09", made("w", 2, gone), d}, nil)
	if hand.Out() || hand.Acts() != len(taken) {
		t.Errorf("%d acts", hand.Acts())
	}
}

// P20.2: over a store whose room ends, what has none is passed over, and what is smaller is still taken.
func TestStoreRoom(t *testing.T) {
	big := blockOf(api.Node{Author: 1, Clock: 1, Ops: []api.Op{{Kind: api.OpPut, Key: "k", Text: strings.Repeat("v", 2000)}}})
	dk, _ := disk.New(16 + len(a) + 16 + len(b) + 16 + len(a2)) // a frame has sixteen bytes more than its block
	store, _ := blocks.Open(dk)
	s := over(store)
	wantTakes(t, "no room for one", s, []string{big, a, big, b, a2, c, a3}, []string{a, b, a2})
	wantAll(t, "no room for one", s, []string{a, b, a2})
}
