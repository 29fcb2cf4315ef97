package cluster_test

import (
	"testing"

	"pleach/api"
	"pleach/cluster"
)

// rows makes a cluster of three with messages of blocks on the link from 1 to 2: of the first block told, of the first two, and so on, each block the parent of the next one.
func rows(t *testing.T, n int) (c *cluster.Cluster, l []string) {
	t.Helper()
	c = made(t, 3)
	for i := range n {
		l = append(l, commit(t, c, 1, []api.Op{incr("n", 1)}, l[max(0, i-1):]...))
		do(t, c, tick(2, 1))
		wants(t, c, deliver(2, 1), number(1))
	}
	return c, l
}

// come fails, if others than these come at 2 from 1: of each message, how many blocks it has; 0: it is spoilt.
func come(t *testing.T, what string, c *cluster.Cluster, l []string, sizes ...int) {
	t.Helper()
	held := 0
	for i, n := range sizes {
		a := c.Do(deliver(1, 2))
		want := list(hashesOf(l[min(held, n):n])...)
		if n == 0 && (a.E == api.OK || a.E == api.ErrAbsent || tell(a) != tell(errs(a.E))) || n > 0 && tell(a) != tell(want) {
			t.Fatalf("%s: message %d: %s; want %s", what, i, tell(a), tell(want))
		}
		held = max(held, n)
	}
	wantsE(t, c, api.ErrAbsent, deliver(1, 2))
}

// P23.1: Tick tells how many bytes were sent, and Deliver hands them over, in their order, on just that link.
func TestTickAndDeliver(t *testing.T) {
	c := made(t, 3)
	a := commit(t, c, 1, []api.Op{put("k", "v")})
	for i := range 3 {
		wants(t, c, tick(1, 2), number(helloSize(uint64(2*i+1), a)))
		wants(t, c, tick(1, 3), number(helloSize(uint64(2*i+2), a)))
	}
	wantsE(t, c, api.ErrAbsent, deliver(2, 1), deliver(3, 1), deliver(2, 3), deliver(3, 2))
	for range 3 {
		wants(t, c, deliver(1, 2), number(1))
	}
	wantsE(t, c, api.ErrAbsent, deliver(1, 2))
	wantsE(t, c, api.ErrAbsent, deliver(3, 1))
	wants(t, c, deliver(2, 1), number(1))
	wants(t, c, deliver(1, 2), list(hashOf(a)))
	wants(t, c, deliver(2, 1), number(1))
	wants(t, c, deliver(1, 2), errs(api.OK)) // what is known
	holds(t, c, 2, a)
	holds(t, c, 3)
	for range 3 {
		wants(t, c, deliver(1, 3), number(1))
	}
	wantsE(t, c, api.ErrAbsent, deliver(1, 3))
}

// P23.1: what is said back goes in its order: blocks first, a want behind them.
func TestSaidBack(t *testing.T) {
	c := made(t, 2)
	a := commit(t, c, 1, []api.Op{put("k", "1")})
	b := commit(t, c, 2, []api.Op{put("k", "2")})
	do(t, c, tick(1, 2))
	wants(t, c, deliver(1, 2), number(2))
	wants(t, c, deliver(2, 1), list(hashOf(b)))
	wants(t, c, deliver(2, 1), number(1))
	wants(t, c, deliver(1, 2), list(hashOf(a)))
}

// P23.1: Deliver tells all that is held now and was not: what waited, too.
func TestDeliverOfWaiting(t *testing.T) {
	c, l := rows(t, 3)
	come(t, "all", c, l, 1, 2, 3)

	// 3 asks 1 for its head alone, which waits till 2 tells 3 the others.
	do(t, c, tick(1, 3))
	wants(t, c, deliver(1, 3), number(1))
	wants(t, c, deliver(3, 1), number(1))
	wants(t, c, deliver(1, 3), errs(api.OK))
	holds(t, c, 3)
	do(t, c, tick(3, 2))
	wants(t, c, deliver(3, 2), number(1))
	wants(t, c, deliver(2, 3), list(hashesOf(l)...))
	holds(t, c, 3, l...)
}

// P23.1: Drop, Twice and Swap: what comes behind each.
func TestDropTwiceSwap(t *testing.T) {
	for _, x := range []struct {
		s     api.Step
		sizes []int
	}{
		{link(api.StepDrop, 1, 2, 0), []int{2, 3}},
		{link(api.StepDrop, 1, 2, 1), []int{1, 3}},
		{link(api.StepDrop, 1, 2, 2), []int{1, 2}},
		{link(api.StepTwice, 1, 2, 0), []int{1, 2, 3, 1}},
		{link(api.StepTwice, 1, 2, 2, 9, 9), []int{1, 2, 3, 3}},
		{link(api.StepSwap, 1, 2, 0, 2), []int{3, 2, 1}},
		{link(api.StepSwap, 1, 2, 2, 1), []int{1, 3, 2}},
		{link(api.StepSwap, 1, 2, 1, 1), []int{1, 2, 3}},
	} {
		c, l := rows(t, 3)
		wants(t, c, x.s, errs(api.OK))
		come(t, show(x.s), c, l, x.sizes...)

		// Of other links nothing changes.
		c, l = rows(t, 3)
		do(t, c, tick(2, 1), tick(2, 1), tick(2, 1))
		x.s.Who, x.s.To = 2, 1
		wants(t, c, x.s, errs(api.OK))
		come(t, show(x.s), c, l, 1, 2, 3)
	}
	for _, i := range []int{-1, 3, 1 << 40, -1 << 63, 1<<63 - 1} {
		c, l := rows(t, 3)
		for kind := api.StepDrop; kind <= api.StepClip; kind++ {
			wantsE(t, c, api.ErrRange, link(kind, 1, 2, i, 0, 1), link(kind, 1, 3, 0, 0, 1), link(kind, 2, 1, 0, 0, 1))
		}
		wantsE(t, c, api.ErrRange, link(api.StepSwap, 1, 2, 0, i), link(api.StepSwap, 1, 2, i, i))
		come(t, "refused", c, l, 1, 2, 3)
	}
}

// P23.1: Flip of message I, at the place J, by the lowest byte of N.
func TestFlip(t *testing.T) {
	for by, same := range map[int]int{1: 257, 255: -1, 254: -2, -255: 1, 128: -128, 7: 7 - 1<<63, -1 << 62: 0, 0x123456: 0x56} {
		c, l := rows(t, 2)
		if byte(by) == 0 {
			wantsE(t, c, api.ErrArg, link(api.StepFlip, 1, 2, 0, 9, by), link(api.StepFlip, 1, 2, 1, 0, by))
			come(t, "by 0", c, l, 1, 2)
			continue
		}
		wantsE(t, c, api.OK, link(api.StepFlip, 1, 2, 1, 0, by))
		wantsE(t, c, api.OK, link(api.StepFlip, 1, 2, 0, 20, by), link(api.StepFlip, 1, 2, 0, 20, same))
		come(t, show(link(0, 0, 0, 0, 0, by)), c, l, 1, 0)
	}
	for _, by := range []int{0, 256, -256, 1 << 62, -1 << 63} {
		c, l := rows(t, 1)
		wantsE(t, c, api.ErrArg, link(api.StepFlip, 1, 2, 0, 0, by))
		come(t, "by 0", c, l, 1)
	}

	// What the message then is refused for tells the place: counted round.
	place := func(e api.Errno, j, by int) {
		t.Helper()
		c, _ := rows(t, 1)
		wantsE(t, c, api.OK, link(api.StepFlip, 1, 2, 0, j, by))
		wantsE(t, c, e, deliver(1, 2))
	}
	place(api.ErrForm, 0, 1)
	place(api.ErrForm, 3, -1)
	place(api.ErrArg, 4, 1)
	place(api.ErrSeal, 4, 2)
	place(api.ErrArg, 5, 2)
	place(api.ErrSeal, 5, 1)
	place(api.ErrOver, 9, 1)
	place(api.ErrSeal, -1, 5)
	c, l := rows(t, 1)
	size := 42 + len(l[0]) + 3 // the kind, how many blocks, and how many bytes the one has
	wantsE(t, c, api.OK, link(api.StepFlip, 1, 2, 0, size+4, 1))
	wantsE(t, c, api.ErrArg, deliver(1, 2))
}

// P23.1: Clip of message I to its first N bytes, counted round.
func TestClip(t *testing.T) {
	for _, n := range []int{0, 3, 9, 41, -1} {
		c, l := rows(t, 2)
		wantsE(t, c, api.OK, link(api.StepClip, 1, 2, 1, 99, n))
		wantsE(t, c, api.OK, link(api.StepSwap, 1, 2, 0, 1))
		wantsE(t, c, api.ErrShort, deliver(1, 2))
		come(t, "clipped", c, l, 1)
	}

	// How long it is now tells at which place Flip takes hold of it.
	c, _ := rows(t, 1)
	wantsE(t, c, api.OK, link(api.StepClip, 1, 2, 0, 0, 5), link(api.StepFlip, 1, 2, 0, 9, 2), link(api.StepFlip, 1, 2, 0, -1, 3))
	wantsE(t, c, api.ErrArg, deliver(1, 2)) // byte 4, From, was 1, and is 0
	c, _ = rows(t, 1)
	wantsE(t, c, api.OK, link(api.StepClip, 1, 2, 0, 0, 0))
	wantsE(t, c, api.ErrArg, link(api.StepFlip, 1, 2, 0, 0, 1))
	wantsE(t, c, api.OK, link(api.StepClip, 1, 2, 0, 0, 7))
	wantsE(t, c, api.ErrShort, deliver(1, 2))
}

// P23.1: of steps on a link Tick alone asks that W be open, and Deliver that To be.
func TestLinksOfClosed(t *testing.T) {
	c, l := rows(t, 3)
	do(t, c, tick(1, 3), crash(1))
	wantsE(t, c, api.ErrState, tick(1, 2), tick(1, 3))
	wantsE(t, c, api.OK, link(api.StepTwice, 1, 2, 2), link(api.StepSwap, 1, 2, 0, 1), link(api.StepDrop, 1, 2, 0), link(api.StepFlip, 1, 2, 2, 0, 1), link(api.StepClip, 1, 2, 2, 0, 9))
	come(t, "of one that is not open", c, l, 1, 3, 0)

	// Nor need To be open, but for Deliver: then the message is lost.
	do(t, c, crash(2))
	wants(t, c, tick(3, 2), number(helloSize(1)))
	wants(t, c, tick(3, 2), number(helloSize(2)))
	wants(t, c, tick(3, 1), number(helloSize(3)))
	wantsE(t, c, api.OK, link(api.StepTwice, 3, 2), link(api.StepSwap, 3, 2, 0, 2), link(api.StepClip, 3, 2, 0, 0, -1))
	wantsE(t, c, api.ErrState, deliver(3, 2), deliver(3, 2), deliver(3, 2))
	wantsE(t, c, api.ErrAbsent, deliver(3, 2), deliver(1, 2), deliver(2, 3))
	wantsE(t, c, api.ErrState, deliver(3, 1))
	wantsE(t, c, api.ErrAbsent, deliver(3, 1))
	wantsE(t, c, api.OK, of(api.StepCrash, 3))
	wantsE(t, c, api.ErrState, deliver(1, 3))
	wantsE(t, c, api.ErrAbsent, deliver(1, 3), deliver(2, 3))
}

// P23.1: what is said back goes to one that is not open, too, and comes there when it is.
func TestSaidBackToClosed(t *testing.T) {
	c := made(t, 2)
	a := commit(t, c, 1, []api.Op{put("k", "v")})
	do(t, c, tick(2, 1), crash(2))
	wants(t, c, deliver(2, 1), number(1))
	do(t, c, of(api.StepOpen, 2))
	wants(t, c, deliver(1, 2), list(hashOf(a)))
}

// P23.1: a message that comes at one whose power is gone is lost, too.
func TestDeliverToDead(t *testing.T) {
	c, l := rows(t, 2)
	do(t, c, fuse(2, 1))
	wantsE(t, c, api.ErrPower, deliver(1, 2), deliver(1, 2))
	wantsE(t, c, api.ErrAbsent, deliver(1, 2))
	wantsE(t, c, api.ErrPower, tick(2, 1))
	wantsE(t, c, api.ErrAbsent, deliver(2, 1))
	do(t, c, crash(2, -1))
	wants(t, c, of(api.StepOpen, 2), list(hashOf(l[0])))
}

// P23.1: a link takes as many messages as may be; for one more Tick is refused, and what Deliver would say back is lost.
func TestFullLink(t *testing.T) {
	c := made(t, 3)
	a := commit(t, c, 1, []api.Op{put("k", "1")})
	b := commit(t, c, 2, []api.Op{put("k", "2")})
	for i := range 1024 {
		wants(t, c, tick(1, 2), number(helloSize(uint64(i+1), a)))
	}
	wantsE(t, c, api.ErrMany, tick(1, 2), tick(1, 2), link(api.StepTwice, 1, 2))
	wants(t, c, tick(1, 3), number(helloSize(1027, a)))

	// All of what is said, and then all but the first of two, has no room.
	do(t, c, tick(2, 1), tick(2, 1))
	wants(t, c, deliver(2, 1), number(2))
	wantsE(t, c, api.ErrMany, tick(1, 2), link(api.StepTwice, 1, 2))
	do(t, c, link(api.StepDrop, 1, 2, 1023))
	wants(t, c, deliver(2, 1), number(2))
	wantsE(t, c, api.ErrMany, tick(1, 2), link(api.StepTwice, 1, 2))
	do(t, c, link(api.StepSwap, 1, 2, 0, 1023))
	wants(t, c, deliver(1, 2), list(hashOf(a)))
	for range 1022 {
		wants(t, c, deliver(1, 2), number(1)) // hellos: b is told; the want that would have stood behind a isn't there
	}
	wants(t, c, deliver(1, 2), number(1))
	wantsE(t, c, api.ErrAbsent, deliver(1, 2))
	wants(t, c, deliver(2, 1), list(hashOf(b)))
	for range 1022 {
		wants(t, c, deliver(2, 1), errs(api.OK))
	}
	wantsE(t, c, api.ErrAbsent, deliver(2, 1))
}

// P23.1: the power's end is told ahead of a link that is full.
func TestFullLinkOfDead(t *testing.T) {
	c := made(t, 2)
	for range 1024 {
		do(t, c, tick(1, 2))
	}
	do(t, c, fuse(1, 0), of(api.StepBegin, 1))
	wantsE(t, c, api.ErrPower, of(api.StepCommit, 1), tick(1, 2))
	do(t, c, crash(1))
	wantsE(t, c, api.ErrState, tick(1, 2))
	do(t, c, of(api.StepOpen, 1))
	wantsE(t, c, api.ErrMany, tick(1, 2))
}
