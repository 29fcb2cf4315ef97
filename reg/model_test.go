package reg_test

import (
	"testing"
)

// P14.1: of whatever history, in whatever order it is handed in, and as it was at whatever heads, is told what the words say.
func TestWords(t *testing.T) {
	r := chance()
	many, none := 0, 0
	for range 250 {
		l := graph(r, r.IntN(25))
		p := of(t, mixed(r, l))
		want := shown(l)
		wantAll(t, showAll(l), p, want)
		if len(want["k"]) > 2 {
			many++
		}
		if len(want["k"]) == 0 && len(l) > 10 {
			none++
		}
		for range 3 {
			heads := some(r, l)
			wantAll(t, showAll(l)+" at some of it", at(t, p, heads), shown(upTo(l, heads)))
		}
		if t.Failed() {
			t.FailNow()
		}
	}
	if many < 20 || none < 5 {
		t.Errorf("too much alike: %d registers with many texts, %d with none", many, none)
	}
}

// P14.1: a history of more transactions than a few.
func TestWordsWide(t *testing.T) {
	r := chance()
	for _, n := range []int{64, 65, 130} {
		l := graph(r, n)
		wantAll(t, "many transactions", of(t, mixed(r, l)), shown(l))
	}
}
