package replica_test

import (
	"fmt"
	"math/rand/v2"
	"slices"
	"testing"

	"pleach/api"
	"pleach/disk"
)

// itemsOf tells the items of the list l.
func itemsOf(t *testing.T, x teller) []api.Item {
	t.Helper()
	return must2(t, func() ([]api.Item, api.Errno) { return x.Items("l") })
}

// wantStands fails, if items that are told now and were told then have changed their order.
func wantStands(t *testing.T, then, now []api.Item) {
	t.Helper()
	both := func(l, other []api.Item) []api.Item {
		return slices.DeleteFunc(slices.Clone(l), func(i api.Item) bool { return !slices.Contains(other, i) })
	}
	if !slices.Equal(both(then, now), both(now, then)) {
		t.Fatalf("the order has changed: %v, then %v", then, now)
	}
}

// P22.6: an item that is inserted alone, behind each that is shown, or at the beginning, stands right behind that one, or first.
func TestInsertBehind(t *testing.T) {
	r := chance()
	x, _ := with(t)
	for n := range 40 {
		was := itemsOf(t, x)
		if len(was) != n {
			t.Fatalf("%d items; want %d", len(was), n)
		}
		at := r.IntN(n + 1)
		place := api.Ident{}
		if at > 0 {
			place = was[at-1].ID
		}
		id := commit(t, x, insert("l", fmt.Sprint(n), place))
		want := slices.Insert(was, at, api.Item{ID: api.Ident{Node: id, Op: 1}, Text: fmt.Sprint(n)})
		if now := itemsOf(t, x); !slices.Equal(now, want) {
			t.Fatalf("%v; want %v", now, want)
		}
	}
}

// writer is a replica on whose list something is done.
type writer struct {
	x    teller
	seen []api.Item // what the list showed last
}

// writes commits something on the list: mostly one insert behind what is shown, which has to stand there; now and then several, or a delete.
func (w *writer) writes(t *testing.T, r *rand.Rand) {
	t.Helper()
	was := itemsOf(t, w.x)
	at := r.IntN(len(was) + 1)
	place := api.Ident{}
	if at > 0 {
		place = was[at-1].ID
	}
	switch r.IntN(8) {
	case 0:
		commit(t, w.x, insert("l", "several", place), insert("l", "more", api.Ident{Op: 1}), insert("l", "first"), insert("l", "again", place), insert("m", "other"))
	case 1, 2:
		if at > 0 {
			commit(t, w.x, api.Op{Kind: api.OpDelete, Key: "l", At: place})
			if now := itemsOf(t, w.x); !slices.Equal(now, slices.Delete(was, at-1, at)) {
				t.Fatalf("behind a delete: %v", now)
			}
		}
	default:
		text := fmt.Sprint(r.Uint32())
		id := commit(t, w.x, insert("l", text, place))
		want := slices.Insert(slices.Clone(was), at, api.Item{ID: api.Ident{Node: id, Op: 1}, Text: text})
		if now := itemsOf(t, w.x); !slices.Equal(now, want) {
			t.Fatalf("an insert at %d: %v; want %v", at, now, want)
		}
	}
}

// P22.6, W8: whatever comes to three replicas, from one another and in parts, the items of a list never change their order, and an insert stands right behind what it was laid behind, or first.
func TestListsStandStill(t *testing.T) {
	r := chance()
	for range 12 {
		l := []*writer{}
		for author := 1; author <= 3; author++ {
			d, _ := disk.New(1 << 20)
			l = append(l, &writer{x: open(t, d, author)})
		}
		for range 40 {
			w := one(r, l...)
			if r.IntN(2) == 0 {
				w.writes(t, r)
			} else {
				from := one(r, l...)
				held := must2(t, from.x.Held)
				b := []string{}
				for _, h := range held {
					if r.IntN(8) > 0 { // what lacks a parent waits
						b = append(b, string(must2(t, func() ([]byte, api.Errno) { return from.x.Block(h) })))
					}
				}
				if len(b) > 0 {
					author := slices.Index(l, w) + 1
					deliver(t, w.x, letter(author%3+1, author, blocksMsg(mixed(r, b)...)))
				}
			}
			now := itemsOf(t, w.x)
			wantStands(t, w.seen, now)
			w.seen = now
		}
		for _, w := range l { // all comes to all
			for _, from := range l {
				w.x.Import(must2(t, from.x.Export))
			}
			wantStands(t, w.seen, itemsOf(t, w.x))
		}
		for _, w := range l[1:] {
			if !slices.Equal(itemsOf(t, w.x), itemsOf(t, l[0].x)) {
				t.Error("who holds the same shows unlike lists")
			}
		}
	}
}
