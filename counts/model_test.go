package counts_test

import (
	"testing"

	"pleach/api"
)

// undone tells how many operations counted what a zero undoes.
func undone(l []api.Entry) int {
	n, all := 0, deeds(l)
	for _, x := range all {
		for _, y := range all {
			if x.op.Kind == api.OpIncr && y.undoes(x) {
				n++
				break
			}
		}
	}
	return n
}

// P16.1, P16.2: of whatever history, in whatever order it is handed in, and as it was at whatever heads, is told what the words say.
func TestWords(t *testing.T) {
	r := chance()
	some0, gone, left := 0, 0, 0
	for range 300 {
		l := graph(r, r.IntN(25))
		p := of(t, mixed(r, l))
		want := shown(l)
		wantAll(t, showAll(l), p, want)
		if want["k"] != 0 && undone(l) > 1 {
			left++
		}
		if want["k"] == 0 && len(l) > 5 {
			some0++
		}
		gone += min(1, undone(l))
		for range 3 {
			heads := some(r, l)
			wantAll(t, showAll(l)+" at some of it", at(t, p, heads), shown(upTo(l, heads)))
		}
		if t.Failed() {
			t.FailNow()
		}
	}
	if left < 50 || gone < 100 || some0 < 5 {
		t.Errorf("too much alike: %d histories with something left beside what is undone, %d with something undone, %d without anything left", left, gone, some0)
	}
}

// P16.1: a history of more transactions than a few.
func TestWordsWide(t *testing.T) {
	r := chance()
	for _, n := range []int{64, 65, 130} {
		l := graph(r, n)
		wantAll(t, "many transactions", of(t, mixed(r, l)), shown(l))
	}
}
