package orset_test

import (
	"slices"
	"testing"

	"pleach/api"
)

// gone tells how many operations added a text that isn't shown.
func gone(l []api.Entry, shown map[string][]string) int {
	n := 0
	for _, x := range l {
		for _, o := range x.Node.Ops {
			if o.Kind == api.OpAdd && !slices.Contains(shown[o.Key], o.Text) {
				n++
			}
		}
	}
	return n
}

// P15.1: of whatever history, in whatever order it is handed in, and as it was at whatever heads, is told what the words say.
func TestWords(t *testing.T) {
	r := chance()
	many, none := 0, 0
	for range 250 {
		l := graph(r, r.IntN(25))
		p := of(t, mixed(r, l))
		want := shown(l)
		wantAll(t, showAll(l), p, want)
		if len(want["s"]) > 2 {
			many++
		}
		none += min(1, gone(l, want))
		for range 3 {
			heads := some(r, l)
			wantAll(t, showAll(l)+" at some of it", at(t, p, heads), shown(upTo(l, heads)))
		}
		if t.Failed() {
			t.FailNow()
		}
	}
	if many < 50 || none < 50 {
		t.Errorf("too much alike: %d sets with many texts, %d histories in which a text is gone", many, none)
	}
}

// P15.1: a history of more transactions than a few.
func TestWordsWide(t *testing.T) {
	r := chance()
	for _, n := range []int{64, 65, 130} {
		l := graph(r, n)
		wantAll(t, "many transactions", of(t, mixed(r, l)), shown(l))
	}
}
