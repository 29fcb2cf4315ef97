package cluster_test

import (
	"fmt"
	"testing"

	"pleach/api"
)

// P23.1: slots are empty at first, each is filled by itself, and again; what stands there is taken in by any replica.
func TestSlots(t *testing.T) {
	c := made(t, 2)
	l := []string{}
	sizes := [8]int{} // how many blocks the ark in each slot has
	empty := func(full func(slot int) bool) {
		t.Helper()
		for slot := range 8 {
			if !full(slot) {
				wantsE(t, c, api.ErrShort, load(1, slot), load(2, slot))
			}
		}
	}
	empty(func(int) bool { return false })
	wants(t, c, export(2, 5), api.Answer{Bytes: arkOf()})
	wants(t, c, load(1, 5), errs(api.OK))
	for round := range 3 {
		for i, slot := range []int{7, 0, 3, 1, 2, 6, 4, 5} {
			if i%2 == 0 {
				l = append(l, commit(t, c, 1, []api.Op{put("k", fmt.Sprint(round, i))}, l[max(0, len(l)-1):]...))
			}
			sizes[slot] = len(l)
			wants(t, c, export(1, slot), api.Answer{Bytes: arkOf(l...)})
			if round == 0 {
				empty(func(x int) bool { return sizes[x] > 0 || x == 5 })
			}
		}
	}
	held := 0
	for _, slot := range []int{7, 7, 3, 0, 2, 1, 4, 6, 5} {
		n := sizes[slot]
		wants(t, c, load(2, slot), list(hashesOf(l[min(held, n):n])...))
		wants(t, c, load(1, slot), errs(api.OK))
		held = max(held, n)
	}
	holds(t, c, 2, l...)
	wants(t, c, export(2, 0), api.Answer{Bytes: arkOf(l...)})
}

// P23.1: slots that are none, by Export and Import; with J 1 Import asks for none.
func TestNoSlot(t *testing.T) {
	c := made(t, 2)
	a := commit(t, c, 1, []api.Op{put("k", "v")})
	for _, slot := range []int{-1, 8, 9, -8, 256, 1 << 40, -1 << 63, 1<<63 - 1} {
		wantsE(t, c, api.ErrRange, export(1, slot), load(1, slot), load(2, slot), export(2, slot))
		s := load(2, slot)
		for _, j := range []int{0, 2, -1, 257} { // none of these is 1
			s.J, s.Bytes = j, arkOf(a)
			wantsE(t, c, api.ErrRange, s)
		}
		s.J, s.Bytes = 1, arkOf()
		wants(t, c, s, errs(api.OK))
	}
	holds(t, c, 2)
}

// P23.1: Import with J 1 takes the step's bytes, whatever stands in the slot; else the slot's, whatever bytes the step has.
func TestImportOfBytes(t *testing.T) {
	c := made(t, 2)
	a := child(8, []api.Op{put("k", "v")})
	b := child(7, []api.Op{add("s", "x")}, a)
	for slot := range 8 {
		do(t, c, export(2, slot))
	}
	wants(t, c, take(1, arkOf(a)), list(hashOf(a)))
	for _, j := range []int{0, 2, -1} {
		s := take(1, arkOf(a, b))
		s.J = j
		wants(t, c, s, errs(api.OK))
	}
	s := take(1, arkOf(a, b))
	s.I = 3
	wants(t, c, s, list(hashOf(b)))
	holds(t, c, 1, a, b)
	wants(t, c, take(2, arkOf(a, b)), list(hashOf(a), hashOf(b)))
}

// P23.1: what is no ark is refused, and nothing was taken of it.
func TestImportOfNoArk(t *testing.T) {
	c := made(t, 1)
	l := []string{child(8, []api.Op{put("k", "v")}), child(7, nil)}
	whole := arkOf(l...)
	spoilt := func(i int) []byte {
		b := append([]byte{}, whole...)
		b[i] ^= 1
		return b
	}
	wantsE(t, c, api.ErrShort, take(1, nil), take(1, whole[:7]), take(1, whole[:len(whole)-1]))
	wantsE(t, c, api.ErrForm, take(1, spoilt(0)), take(1, spoilt(7)))
	wantsE(t, c, api.ErrSum, take(1, spoilt(len(whole)-1)))
	wantsE(t, c, api.ErrRest, take(1, append(append([]byte{}, whole...), 0)))
	holds(t, c, 1)
	wants(t, c, take(1, whole), list(hashesOf(sorted(l...))...))
}

// P23.1: an Export that is refused leaves in the slot what stood there.
func TestExportRefused(t *testing.T) {
	c := made(t, 2)
	a := commit(t, c, 1, []api.Op{put("k", "v")})
	do(t, c, export(1, 4))
	commit(t, c, 1, nil, a)
	do(t, c, fuse(1, 0), of(api.StepBegin, 1))
	wantsE(t, c, api.ErrPower, of(api.StepCommit, 1), export(1, 4), export(1, 2))
	do(t, c, crash(1))
	wantsE(t, c, api.ErrState, export(1, 4), export(1, 2))
	wantsE(t, c, api.ErrShort, load(2, 2))
	wants(t, c, load(2, 4), list(hashOf(a)))
}

// P23.1: an ark of more than may be held is taken up to there, which is told beside the error.
func TestImportOfTooMany(t *testing.T) {
	c := made(t, 2)
	l := []string{}
	for i := range 4096 {
		l = append(l, child(8, []api.Op{incr("n", int64(i))}))
	}
	a := commit(t, c, 1, []api.Op{put("k", "v")})
	l = sorted(l...)
	whole := arkOf(l...)
	want := list(hashesOf(l[:4095])...)
	want.E = api.ErrMany
	wants(t, c, take(1, whole), want)
	wantsE(t, c, api.ErrMany, take(1, whole))
	do(t, c, of(api.StepBegin, 1))
	wantsE(t, c, api.ErrHeads, of(api.StepCommit, 1))
	wantsE(t, c, api.OK, of(api.StepAbort, 1))
	wantsE(t, c, api.ErrMany, of(api.StepMerge, 1))
	wants(t, c, take(2, whole), list(hashesOf(l)...))
	wants(t, c, under(api.StepRegister, 1, "k"), api.Answer{Texts: []string{"v"}})
	holds(t, c, 1, append(l[:4095], a)...)
}
