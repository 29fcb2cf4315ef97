package cluster_test

import (
	"strings"
	"testing"

	"pleach/api"
)

// P23.1: Fuse: the power goes at just that act of that disk; below 0 at none.
func TestFuse(t *testing.T) {
	a := child(1, []api.Op{put("k", "v")})
	b := child(1, nil, a)
	for n := range 6 { // each commit is an Append and a Sync
		c := made(t, 2)
		wants(t, c, fuse(1, n), errs(api.OK))
		for i, h := range []api.Hash{hashOf(a), hashOf(b)} {
			l := [][]api.Op{{put("k", "v")}, nil}[i]
			steps := commits(1, l...)
			want := api.Answer{Hash: h}
			if n < 2*i+2 {
				want = errs(api.ErrPower)
			}
			for _, s := range steps[:len(steps)-1] {
				if e := c.Do(s).E; e != api.OK && n >= 2*i {
					t.Fatalf("%s: %d", show(s), e)
				}
			}
			wants(t, c, of(api.StepCommit, 1), want)
		}
		commit(t, c, 2, []api.Op{put("k", "v")})
	}
	c := made(t, 1)
	for _, n := range []int{-1, -2, -1 << 63, 1<<63 - 1} {
		wantsE(t, c, api.OK, fuse(1, 1), fuse(1, n))
		do(t, c, commits(1, incr("n", 1))...)
	}
	wants(t, c, under(api.StepCount, 1, "n"), number(4))
	wantsE(t, c, api.OK, fuse(1, 9), fuse(1, 0), of(api.StepBegin, 1))
	wantsE(t, c, api.ErrPower, of(api.StepCommit, 1))
}

// P23.1: Crash: what stays of the bytes that aren't safe; what comes of them, when the replica is opened again.
func TestKeep(t *testing.T) {
	a, b := child(1, []api.Op{put("k", "1")}), child(1, []api.Op{put("k", "2")}, child(1, []api.Op{put("k", "1")}))
	whole := int(frameSize(b))
	for _, x := range []struct {
		keep []int
		stay int
	}{
		{nil, 0}, {[]int{0}, 0}, {[]int{1}, 1}, {[]int{16}, 16}, {[]int{whole - 1}, whole - 1}, {[]int{whole}, whole}, {[]int{-1}, whole},
		{[]int{whole + 1}, 0}, {[]int{2*whole + 1}, whole}, {[]int{2 * whole}, whole - 1}, {[]int{whole, 5, -7}, whole}, {[]int{-2, 0}, whole - 1},
	} {
		c := made(t, 2)
		commit(t, c, 1, []api.Op{put("k", "1")})
		do(t, c, fuse(1, 0), of(api.StepBegin, 1), does(1, put("k", "2")))
		wantsE(t, c, api.ErrPower, of(api.StepCommit, 1))
		wants(t, c, of(api.StepFiles, 1), number(frameSize(a)+frameSize(b)))
		s := crash(1, x.keep...)
		s.I, s.J, s.N, s.Bytes = 7, 1, 3, []byte("abc")
		wants(t, c, s, errs(api.OK))
		wants(t, c, of(api.StepFiles, 1), number(frameSize(a)+int64(x.stay)))
		wants(t, c, crash(1), errs(api.OK)) // what has stayed is safe
		wants(t, c, of(api.StepFiles, 1), number(frameSize(a)+int64(x.stay)))
		l := []string{a}
		if x.stay == whole {
			l = append(l, b)
		}
		wants(t, c, of(api.StepOpen, 1), list(hashesOf(l)...))
		size := int64(0)
		for _, b := range l {
			size += frameSize(b)
		}
		wants(t, c, of(api.StepFiles, 1), number(size))
		wants(t, c, of(api.StepOpen, 1), list(hashesOf(l)...))
		commit(t, c, 1, []api.Op{put("k", "3")}, l[len(l)-1])
	}
}

// P23.1: Crash lets go one that is open and well, too; there is no fuse then, no transaction is open, and nothing waits.
func TestCrashOfLiving(t *testing.T) {
	c := made(t, 2)
	a := commit(t, c, 1, []api.Op{put("k", "1")})
	do(t, c, of(api.StepBegin, 1), does(1, put("k", "2")), fuse(1, 0))
	wants(t, c, crash(1, 5), errs(api.OK))
	for _, kind := range kinds() {
		if asksOpen(kind) {
			wantsE(t, c, api.ErrState, link(kind, 1, 2))
		}
	}
	wants(t, c, of(api.StepOpen, 1), list(hashOf(a)))
	wantsE(t, c, api.ErrState, of(api.StepCommit, 1), of(api.StepAbort, 1))
	commit(t, c, 1, nil, a)
}

// P23.1: Fuse, Crash, Open and Files of one that isn't open, and of one that is dead.
func TestClosedAndDead(t *testing.T) {
	c := made(t, 2)
	a := commit(t, c, 1, []api.Op{put("k", "1")})
	do(t, c, crash(1))
	for range 3 {
		wants(t, c, of(api.StepFiles, 1), number(frameSize(a)))
		wants(t, c, fuse(1, 0), errs(api.OK))
		wants(t, c, crash(1, 1), errs(api.OK))
		wantsE(t, c, api.ErrState, of(api.StepHeld, 1))
	}
	wants(t, c, fuse(1, 1), errs(api.OK))
	wants(t, c, of(api.StepOpen, 1), list(hashOf(a))) // which does no act
	b := child(1, nil, a)
	do(t, c, of(api.StepBegin, 1))
	wantsE(t, c, api.ErrPower, of(api.StepCommit, 1), of(api.StepHeld, 1))
	wants(t, c, of(api.StepFiles, 1), number(frameSize(a)+frameSize(b)))
	wants(t, c, fuse(1, 0), errs(api.OK))
	wants(t, c, crash(1, 3), errs(api.OK))
	wants(t, c, of(api.StepFiles, 1), number(frameSize(a)+3))
	wants(t, c, of(api.StepOpen, 1), list(hashOf(a)))
}

// P23.1: Open where the power is gone, or goes: then it is not open, and that is what its steps answer.
func TestOpenRefused(t *testing.T) {
	c := made(t, 2)
	a := commit(t, c, 1, []api.Op{put("k", "1")})
	do(t, c, fuse(1, 0), of(api.StepBegin, 1))
	wantsE(t, c, api.ErrPower, of(api.StepCommit, 1), of(api.StepHeld, 1))
	for range 2 {
		wants(t, c, of(api.StepOpen, 1), errs(api.ErrPower))
		wantsE(t, c, api.ErrState, of(api.StepHeld, 1), tick(1, 2), export(1, 0))
	}

	// A torn frame is cut off, which is an act.
	do(t, c, crash(1, 4), fuse(1, 0))
	wants(t, c, of(api.StepOpen, 1), errs(api.ErrPower))
	wantsE(t, c, api.ErrState, of(api.StepHeld, 1))
	wants(t, c, of(api.StepOpen, 1), errs(api.ErrPower))
	wants(t, c, of(api.StepFiles, 1), number(frameSize(a)+4))
	do(t, c, crash(1))
	wants(t, c, of(api.StepOpen, 1), list(hashOf(a)))
	wants(t, c, of(api.StepFiles, 1), number(frameSize(a)))
}

// P23.1: Open of one that is open begins it anew, on the disk as it is: nothing is open or waits, and its ticks are counted from the first one on.
func TestOpenOfOpen(t *testing.T) {
	c, l := rows(t, 2)
	do(t, c, link(api.StepClip, 1, 2, 0, 0, 0)) // 2 learns of both at once
	wantsE(t, c, api.ErrShort, deliver(1, 2))
	wants(t, c, deliver(1, 2), list(hashesOf(l)...))
	do(t, c, of(api.StepBegin, 2), does(2, put("k", "v")), tick(2, 1), tick(2, 3))
	wants(t, c, of(api.StepOpen, 2), list(hashesOf(l)...))
	wantsE(t, c, api.ErrState, of(api.StepCommit, 2))
	wants(t, c, tick(2, 3), number(helloSize(1, l...)))

	// What waits is forgotten: 3 holds nothing when its parents come.
	do(t, c, tick(1, 3), deliver(1, 3), deliver(3, 1))
	wants(t, c, deliver(1, 3), errs(api.OK))
	wants(t, c, of(api.StepOpen, 3), errs(api.OK))
	wants(t, c, take(3, arkOf(l[0])), list(hashOf(l[0])))
	wants(t, c, take(3, arkOf(l...)), list(hashOf(l[1])))

	// A fuse stays.
	do(t, c, fuse(1, 1), of(api.StepOpen, 1), of(api.StepBegin, 1))
	wantsE(t, c, api.ErrPower, of(api.StepCommit, 1))
}

// P23.1: Open has the author's number and the key that the cluster was made with.
func TestOpenedAgain(t *testing.T) {
	c := made(t, 8)
	a := child(7, []api.Op{put("k", "v")})
	for range 2 {
		do(t, c, crash(7))
		wants(t, c, of(api.StepOpen, 7), errs(api.OK))
	}
	do(t, c, of(api.StepBegin, 7), does(7, put("k", "v")))
	wants(t, c, of(api.StepCommit, 7), api.Answer{Hash: hashOf(a)})
	wantsE(t, c, api.ErrArg, tick(7, 7))
	talk(t, c, 7, 8)
	holds(t, c, 8, a)
}

// P23.1: Files counts the bytes of all files, safe or not.
func TestManyFiles(t *testing.T) {
	c := made(t, 2)
	size, l := int64(0), []string{}
	for i := range 9 {
		l = append(l, commit(t, c, 1, []api.Op{put("k", strings.Repeat(".", 7000*i))}, l[max(0, i-1):]...))
		size += frameSize(l[i])
		wants(t, c, of(api.StepFiles, 1), number(size))
	}
	do(t, c, fuse(1, 0), of(api.StepBegin, 1))
	wantsE(t, c, api.ErrPower, of(api.StepCommit, 1))
	last := frameSize(child(1, nil, l[8]))
	wants(t, c, of(api.StepFiles, 1), number(size+last))
	wants(t, c, of(api.StepFiles, 2), number(0))

	// Which stay of each file its own number tells, the files by rising names: here the last of several has such bytes.
	do(t, c, crash(1, 9, 9))
	wants(t, c, of(api.StepFiles, 1), number(size))
	wants(t, c, of(api.StepOpen, 1), list(hashesOf(sorted(l...))...))
}
