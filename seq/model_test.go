package seq_test

import (
	"testing"

	"pleach/api"
)

// lost tells how many inserts of a history are no items.
func lost(l []api.Entry) int {
	n, all := 0, deeds(l)
	for _, d := range all {
		if d.op.Kind == api.OpInsert && !isItem(all, d) {
			n++
		}
	}
	return n
}

// P17.1, P17.2: of whatever history, in whatever order it is handed in, and as it was at whatever heads, is told what the words say.
func TestWords(t *testing.T) {
	r := chance()
	long, gone, none, wide := 0, 0, 0, 0
	for range 250 {
		l := graph(r, r.IntN(25))
		p := of(t, mixed(r, l))
		k := wantWords(t, showAll(l), p, l)["k"]
		long += min(1, len(k.all)/6)
		gone += min(1, len(k.all)-len(k.shown))
		none += min(1, lost(l))
		for at, items := range k.behind {
			if at != (api.Ident{}) && len(items) > 1 {
				wide++
				break
			}
		}
		for range 2 {
			heads := some(r, l)
			wantWords(t, showAll(l)+" at some of it", at(t, p, heads), upTo(l, heads))
		}
		if t.Failed() {
			t.FailNow()
		}
	}
	if long < 80 || gone < 80 || none < 80 || wide < 80 {
		t.Errorf("too much alike: %d long lists, %d histories with items that are gone, %d with inserts that are no items, %d with several items behind one", long, gone, none, wide)
	}
}

// P17.1, P17.2: a history of more transactions than a few.
func TestWordsWide(t *testing.T) {
	r := chance()
	for _, n := range []int{64, 65, 130} {
		l := graph(r, n)
		wantWords(t, "many transactions", of(t, mixed(r, l)), l)
	}
}
