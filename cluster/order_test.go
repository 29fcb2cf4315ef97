package cluster_test

import (
	"testing"

	"pleach/api"
	"pleach/cluster"
)

// kinds tells all kinds of steps.
func kinds() []int {
	l := []int{}
	for k := api.StepBegin; k <= api.StepFiles; k++ {
		l = append(l, k)
	}
	return l
}

// isOnLink tells whether steps of a kind are on a link.
func isOnLink(kind int) bool { return kind >= api.StepTick && kind <= api.StepClip }

// asksOpen tells whether steps of a kind ask that W be open.
func asksOpen(kind int) bool {
	return kind <= api.StepTick || kind == api.StepExport || kind == api.StepImport
}

// far tells numbers that are none of n replicas.
func far(n int) []int { return []int{0, n + 1, -1, -n, 257, 256 + n, 1 << 40, -1 << 63, 1<<63 - 1} }

// still makes a cluster in whose replica 1 a transaction is open, with a message under way each way between 1 and 2, and an ark in a slot.
func still(t *testing.T) *cluster.Cluster {
	t.Helper()
	c := made(t, 3)
	commit(t, c, 1, []api.Op{put("k", "v"), insert("l", "i")})
	do(t, c, tick(1, 2), tick(2, 1), export(1, 3), of(api.StepBegin, 1), does(1, incr("n", 1)))
	return c
}

// lookAll tells what steps tell of a cluster, as still makes it.
func lookAll(t *testing.T, c *cluster.Cluster) []string {
	t.Helper()
	l := []api.Answer{}
	for who := 1; who <= 3; who++ {
		l = append(l, c.Do(of(api.StepHeld, who)), c.Do(of(api.StepCells, who)), c.Do(of(api.StepFiles, who)), c.Do(load(who, 3)))
		for slot := range 8 {
			if slot != 3 {
				l = append(l, c.Do(load(who, slot)))
			}
		}
	}
	l = append(l, c.Do(of(api.StepCommit, 1)), c.Do(tick(1, 3)))
	for range 2 {
		l = append(l, c.Do(deliver(1, 2)), c.Do(deliver(2, 1)), c.Do(deliver(2, 3)), c.Do(deliver(1, 3)), c.Do(deliver(3, 1)), c.Do(deliver(3, 2)))
	}
	return tellAll(append(l, c.Do(of(api.StepCells, 1)), c.Do(of(api.StepHeld, 2))))
}

// unchanged fails, if steps that are refused with an error change something.
func unchanged(t *testing.T, e api.Errno, l ...api.Step) {
	t.Helper()
	c := still(t)
	wantsE(t, c, e, l...)
	got, want := lookAll(t, c), lookAll(t, still(t))
	for i := range want {
		if got[i] != want[i] {
			t.Fatalf("behind steps that were refused, look %d: %s; want %s", i, got[i], want[i])
		}
	}
}

// P23.1: kinds that are none, ahead of all else.
func TestNoKind(t *testing.T) {
	l := []api.Step{}
	for _, kind := range []int{0, -1, 28, 29, 99, 256 + api.StepBegin, 1<<32 + api.StepFuse, -1 << 63, 1<<63 - 1} {
		l = append(l, of(kind, 1), of(kind, 3), of(kind, 0), of(kind, 9), link(kind, 1, 2), link(kind, 1, 1), link(kind, 7, 7))
		l = append(l, api.Step{Kind: kind, Who: 1, To: 2, I: 3, J: 1, N: 1, Op: put("k", "w"), Key: "k", Keep: []int{1}, Bytes: arkOf()})
	}
	unchanged(t, api.ErrKind, l...)
}

// P23.1: replicas that are none: of steps of each kind.
func TestNoReplica(t *testing.T) {
	l := []api.Step{}
	for _, kind := range kinds() {
		for _, who := range far(3) {
			l = append(l, of(kind, who), link(kind, who, 1), link(kind, who, 2, 0, 0, 1), link(kind, who, who), link(kind, who, 1, 8))
			l = append(l, doesAt(who, -1, put("k", "w")), api.Step{Kind: api.StepAt, Who: who, I: 9})
		}
	}
	unchanged(t, api.ErrArg, l...)
}

// P23.1: links that are none, ahead of whether the replicas are open; To counts in no other step.
func TestNoLink(t *testing.T) {
	l := []api.Step{}
	for _, kind := range kinds() {
		for _, to := range append(far(3), 1) {
			if isOnLink(kind) {
				l = append(l, link(kind, 1, to), link(kind, 1, to, 0, 0, 1), link(kind, 1, to, -1, -1, 256))
			}
		}
	}
	unchanged(t, api.ErrArg, l...)
	c := still(t)
	do(t, c, crash(1))
	wantsE(t, c, api.ErrArg, l...)
	for _, to := range append(far(3), 1, 2) {
		wants(t, c, link(api.StepHeld, 2, to), errs(api.OK))
		wants(t, c, link(api.StepFiles, 2, to), errs(api.OK))
		wants(t, c, link(api.StepOpen, 2, to), errs(api.OK))
	}
}

// P23.1: a replica that is not open, ahead of what the step itself asks; of those alone that ask it.
func TestNotOpen(t *testing.T) {
	for _, kind := range kinds() {
		c := still(t)
		do(t, c, crash(1))
		full := api.Step{Kind: kind, Who: 1, To: 2, I: 99, J: 1, N: 1, Op: put("k", "w"), Key: "k", Heads: []api.Hash{{1}}, Bytes: arkOf()}
		if !asksOpen(kind) {
			if a := c.Do(of(kind, 1)); !isOnLink(kind) && a.E != api.OK || a.E == api.ErrState {
				t.Errorf("kind %d: %d", kind, a.E)
			}
			continue
		}
		l := []api.Step{link(kind, 1, 2), link(kind, 1, 3), full}
		full.J, full.I, full.Op = 0, -1, api.Op{}
		wantsE(t, c, api.ErrState, append(l, full)...)
		wantsE(t, c, api.ErrState, doesAt(1, 9, insert("l", "x")), api.Step{Kind: api.StepAt, Who: 1, I: 9}, export(1, 8), load(1, 8), load(1, 0), tick(1, 2))
		wants(t, c, deliver(1, 2), number(1)) // nothing else has gone to the link
		wantsE(t, c, api.ErrAbsent, deliver(1, 2))
		do(t, c, load(2, 3))
	}
}

// P23.1: nothing under way is told ahead of one that is not open.
func TestNothingToClosed(t *testing.T) {
	c := still(t)
	do(t, c, crash(2))
	wantsE(t, c, api.ErrState, deliver(1, 2))
	wantsE(t, c, api.ErrAbsent, deliver(1, 2), deliver(3, 2))
}

// P23.1: one whose power is gone is open, and each step that asks it answers that it is: but what the step asks ahead of it.
func TestDead(t *testing.T) {
	c := still(t)
	do(t, c, fuse(1, 0))
	wantsE(t, c, api.ErrPower, of(api.StepCommit, 1))
	for _, kind := range kinds() {
		if asksOpen(kind) {
			wantsE(t, c, api.ErrPower, link(kind, 1, 2))
		}
	}
	wantsE(t, c, api.ErrPower, doesAt(1, 0, insert("l", "x")), doesAt(1, -1, insert("l", "x")), doesAt(1, 9, insert("l", "x")), api.Step{Kind: api.StepAt, Who: 1, I: 9})
	wantsE(t, c, api.ErrPower, load(1, 3), load(1, 0), take(1, nil), take(1, arkOf()), export(1, 7))
	wantsE(t, c, api.ErrRange, export(1, 8), export(1, -1), load(1, 8), load(1, -1))
	wantsE(t, c, api.ErrPower, deliver(2, 1))
	wantsE(t, c, api.ErrAbsent, deliver(2, 1))
	wantsE(t, c, api.ErrArg, tick(1, 1))
	for slot := range 8 {
		if slot != 3 {
			wantsE(t, c, api.ErrShort, load(2, slot))
		}
	}

	// The others go on, and so does what asks the disk's hand alone.
	do(t, c, load(2, 3), deliver(1, 2), tick(2, 1))
	if a := c.Do(of(api.StepFiles, 1)); a.E != api.OK || a.N == 0 {
		t.Errorf("Files: %d, %d", a.E, a.N)
	}
	wantsE(t, c, api.OK, fuse(1, 3))
}
