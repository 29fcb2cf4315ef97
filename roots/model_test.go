package roots_test

import (
	"math/rand/v2"
	"slices"
	"testing"

	"pleach/api"
	"pleach/roots"
)

// agree fails, if Check doesn't answer what the words say.
func agree(t *testing.T, what string, root api.Hash, kind int, key string, w api.Witness) api.Errno {
	t.Helper()
	c, is, e := told(root, kind, key, w)
	checkIs(t, what, root, kind, key, w, c, is, e)
	return e
}

// P19.1 to P19.4: of any cells, at any place: Root and Find are what the words say, and Check takes what Find tells, and tells the cell that stands there, or that none does.
func TestAnyCells(t *testing.T) {
	r := chance()
	for round := range 600 {
		l := someCells(r, r.IntN(30))
		root := rootOf(l)
		rootIs(t, "any", l, root)
		for range 8 {
			kind, key := 1+r.IntN(4), someText(r)
			if len(l) > 0 && r.IntN(2) == 0 {
				kind, key = l[r.IntN(len(l))].Kind, l[r.IntN(len(l))].Key
			}
			findIs(t, "any", l, kind, key, witnessOf(l, kind, key))
			w, _ := roots.Find(l, kind, key)
			at := slices.IndexFunc(l, func(c api.Cell) bool { return c.Kind == kind && c.Key == key })
			if at >= 0 {
				checkIs(t, "any", root, kind, key, w, l[at], true, api.OK)
			} else {
				checkIs(t, "any", root, kind, key, w, api.Cell{}, false, api.OK)
			}
			agree(t, "any", root, kind, key, w)
		}
		if t.Failed() {
			t.Fatalf("in round %d", round)
		}
	}
}

// spoil turns something in a witness of a list, so that it looks as right as can be.
func spoil(r *rand.Rand, l []api.Cell, w *api.Witness) {
	if len(w.Leaves) == 0 || r.IntN(12) == 0 {
		w.Cells += r.IntN(3) - 1
		return
	}
	x := &w.Leaves[r.IntN(len(w.Leaves))]
	switch r.IntN(12) {
	case 0:
		x.Number += r.IntN(3) - 1
	case 1:
		x.Cell.Kind += r.IntN(3) - 1
	case 2:
		x.Cell.Key = someText(r)
	case 3:
		x.Cell.Value = []byte(someText(r))
	case 4:
		x.Path = append(x.Path, api.Hash{})
	case 5:
		cut(x, r.IntN(len(x.Path)+1))
	case 6:
		if len(x.Path) > 0 {
			x.Path[r.IntN(len(x.Path))][r.IntN(32)] ^= 1 << r.IntN(8)
		}
	case 7:
		w.Leaves = slices.Delete(w.Leaves, 0, 1)
	case 8:
		w.Leaves = append(w.Leaves, leafOf(l, r.IntN(len(l))))
	case 9:
		*x = leafOf(l, r.IntN(len(l)))
	case 10:
		slices.Reverse(w.Leaves)
	case 11:
		w.Leaves = []api.Leaf{leafOf(l, r.IntN(len(l)))}
	}
}

// P19.3, P19.5, P19.6: whatever witness is handed in, near to a right one or far from it: Check answers what the words say; if it takes it, what it tells stands so in the list, and it is Find's.
func TestAnyWitness(t *testing.T) {
	r := chance()
	taken, tries := 0, 0
	for round := range 1500 {
		l := someCells(r, r.IntN(12))
		root := rootOf(l)
		for range 20 {
			kind, key := 1+r.IntN(4), someText(r)
			if len(l) > 0 && r.IntN(2) == 0 {
				at := r.IntN(len(l))
				kind, key = l[at].Kind, l[at].Key
			}
			w := copyWitness(witnessOf(l, kind, key))
			for range 1 + r.IntN(3) {
				spoil(r, l, &w)
			}
			if r.IntN(6) == 0 {
				kind, key = r.IntN(6), someText(r)
			}
			tries++
			if agree(t, "any", root, kind, key, w) == api.OK {
				taken++
				stays(t, l, root, kind, key, w)
			}
		}
		if t.Failed() {
			t.Fatalf("in round %d", round)
		}
	}
	if taken < tries/50 || taken > tries/2 {
		t.Errorf("%d of %d are taken: the chances are bad", taken, tries)
	}
}

// stays fails, if a witness that was taken isn't the list's own, or tells something else than what stands there.
func stays(t *testing.T, l []api.Cell, root api.Hash, kind int, key string, w api.Witness) {
	t.Helper()
	findIs(t, "taken", l, kind, key, w)
	c, is, _ := roots.Check(root, kind, key, w)
	at := slices.IndexFunc(l, func(c api.Cell) bool { return c.Kind == kind && c.Key == key })
	if is != (at >= 0) || is && !sameCell(c, l[at]) {
		t.Errorf("taken: (%d, %q): %v, %v, in %v", kind, key, c, is, l)
	}
}

// P19.5: a witness of one list is not taken with the root of another one, unless it is that one's, too.
func TestTwoLists(t *testing.T) {
	r := chance()
	for range 1500 {
		a := someCells(r, 1+r.IntN(8))
		b := copyCells(a)
		switch at := r.IntN(len(b)); r.IntN(3) {
		case 0:
			b = slices.Delete(b, at, at+1)
		case 1:
			b[at].Value = append(b[at].Value, 1)
		case 2:
			b[len(b)-1].Key += "\x00"
		}
		for range 4 {
			kind, key := 1+r.IntN(4), someText(r)
			if r.IntN(2) == 0 {
				at := r.IntN(len(a))
				kind, key = a[at].Kind, a[at].Key
			}
			w, _ := roots.Find(a, kind, key)
			refused(t, "another list's root", rootOf(b), kind, key, w)
		}
	}
}

// P19.1, P19.2: of any list, in order or not: whether it may be, and why not.
func TestAnyLists(t *testing.T) {
	r := chance()
	counts := map[api.Errno]int{}
	for range 4000 {
		l := someCells(r, r.IntN(8))
		if len(l) > 1 && r.IntN(2) == 0 {
			at := r.IntN(len(l))
			l[at] = l[r.IntN(len(l))]
		}
		if len(l) > 0 && r.IntN(3) == 0 {
			l[r.IntN(len(l))].Kind = r.IntN(7) - 1
		}
		want := api.OK
		for i := range l {
			if i > 0 && !before(l[i-1].Kind, l[i-1].Key, l[i].Kind, l[i].Key) {
				want = api.ErrOrder
			}
		}
		if slices.ContainsFunc(l, func(c api.Cell) bool { return !slices.Contains([]int{1, 2, 3, 4}, c.Kind) }) {
			want = api.ErrKind
		}
		counts[want]++
		if want == api.OK {
			rootIs(t, "any", l, rootOf(l))
		} else {
			wrongList(t, "any", l, want)
		}
	}
	if counts[api.OK] < 400 || counts[api.ErrOrder] < 400 || counts[api.ErrKind] < 400 {
		t.Errorf("the chances are bad: %v", counts)
	}
}
