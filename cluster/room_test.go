package cluster_test

import (
	"testing"

	"pleach/api"
)

// P23.1: a disk has just the room that was said: what is one byte too long for it is refused, and nothing has changed.
func TestRoom(t *testing.T) {
	a := child(1, []api.Op{put("k", "v")})
	for _, less := range []int{0, 1} {
		c := made(t, 2, int(frameSize(a))-less)
		do(t, c, of(api.StepBegin, 1), does(1, put("k", "v")))
		if less == 0 {
			wants(t, c, of(api.StepCommit, 1), api.Answer{Hash: hashOf(a)})
			wants(t, c, of(api.StepFiles, 1), number(frameSize(a)))
			continue
		}
		for range 3 {
			wantsE(t, c, api.ErrRoom, of(api.StepCommit, 1))
			wants(t, c, of(api.StepFiles, 1), number(0))
			holds(t, c, 1)
		}
		wantsE(t, c, api.ErrState, of(api.StepBegin, 1), of(api.StepMerge, 1)) // it is open still
		wantsE(t, c, api.OK, of(api.StepAbort, 1))
		wants(t, c, of(api.StepOpen, 1), errs(api.OK))
	}
}

// P23.1: an ark of more than there is room for is taken up to there, which is told beside the error, and is safe.
func TestImportWithoutRoom(t *testing.T) {
	l := []string{}
	for i := range 6 {
		l = append(l, child(8, []api.Op{incr("n", 1)}, l[max(0, i-1):]...))
	}
	size := func(n int) (room int) {
		for _, b := range l[:n] {
			room += int(frameSize(b))
		}
		return room
	}
	for n := range 6 {
		for _, more := range []int{0, int(frameSize(l[n])) - 1} {
			c := made(t, 2, size(n)+more)
			want := list(hashesOf(l[:n])...)
			want.E = api.ErrRoom
			wants(t, c, take(1, arkOf(l...)), want)
			wants(t, c, take(1, arkOf(l...)), errs(api.ErrRoom))
			wants(t, c, under(api.StepCount, 1, "n"), number(int64(n)))
			wants(t, c, of(api.StepFiles, 1), number(int64(size(n))))
			wants(t, c, export(1, 2), api.Answer{Bytes: arkOf(l[:n]...)})
			wants(t, c, load(2, 2), list(hashesOf(l[:n])...))
			do(t, c, crash(1, 9))
			wants(t, c, of(api.StepOpen, 1), list(hashesOf(l[:n])...))
		}
	}
}

// P23.1: what a message brings beyond the room is passed over, without an error.
func TestDeliverWithoutRoom(t *testing.T) {
	a, b := child(8, []api.Op{put("k", "a text of some bytes")}), child(7, []api.Op{put("k", "v")})
	c := made(t, 2, int(frameSize(a)+frameSize(b)))
	do(t, c, take(1, arkOf(a, b)))
	commit(t, c, 2, nil) // which leaves room for one of them alone
	do(t, c, tick(2, 1), deliver(2, 1))
	want := hashesOf([]string{a})
	if compare(hashOf(a), hashOf(b)) > 0 {
		want = hashesOf([]string{b})
	}
	wants(t, c, deliver(1, 2), list(want...))
	wants(t, c, deliver(1, 2), number(1)) // a want of what it has
	wants(t, c, of(api.StepOpen, 2), list(rising(append(want, hashOf(child(2, nil))))...))
}

// P23.1: Merge without room.
func TestMergeWithoutRoom(t *testing.T) {
	a, b := child(8, []api.Op{put("k", "1")}), child(7, []api.Op{put("k", "2")})
	m := child(1, nil, a, b)
	room := int(frameSize(a) + frameSize(b) + frameSize(m))
	c := made(t, 1, room-1)
	do(t, c, take(1, arkOf(a, b)))
	wantsE(t, c, api.ErrRoom, of(api.StepMerge, 1), of(api.StepMerge, 1))
	holds(t, c, 1, a, b)
	c = made(t, 1, room)
	do(t, c, take(1, arkOf(a, b)))
	wants(t, c, of(api.StepMerge, 1), api.Answer{Hash: hashOf(m)})
}
