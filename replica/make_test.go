package replica_test

import (
	"fmt"
	"slices"
	"strings"
	"testing"

	"pleach/api"
	"pleach/disk"
	"pleach/replica"
)

// wantStill fails, if calls change anything that a replica tells, or that lies on its disk.
func wantStill(t *testing.T, what string, x teller, h *disk.Hand, calls func()) {
	t.Helper()
	was, acts, files := lookAll(x, "a", "l"), h.Acts(), h.Files()
	calls()
	if lookAll(x, "a", "l") != was {
		t.Errorf("%s: what is shown has changed", what)
	}
	if h.Acts() != acts || !sameFiles(h.Files(), files) {
		t.Errorf("%s: %d acts, %s", what, h.Acts()-acts, showFiles(h.Files()))
	}
}

// wantRefused fails, if a call isn't refused with this error and a zero hash, or changes anything.
func wantRefused(t *testing.T, what string, x teller, h *disk.Hand, call func() (api.Hash, api.Errno), want api.Errno) {
	t.Helper()
	wantStill(t, what, x, h, func() {
		t.Helper()
		if id, e := call(); e != want || id != (api.Hash{}) {
			t.Errorf("%s: %x, %d; want %d", what, id, e, want)
		}
	})
}

// nodeAt tells the transaction of a hash that a replica holds.
func nodeAt(t *testing.T, x teller, h api.Hash) api.Node {
	t.Helper()
	b, e := x.Block(h)
	wantE(t, "Block", e, api.OK)
	return nodeOf(string(b))
}

// P22.1: Begin, Do, Abort, Commit, Merge, in every order: which are refused, when none is open, and when one is.
func TestStates(t *testing.T) {
	a, b := made("a"), made("b")
	r, h := with(t, a, b)
	wantStill(t, "none is open", r, h, func() {
		wantE(t, "Do", r.Do(put("a", "x")), api.ErrState)
		wantE(t, "Do of what may not be", r.Do(api.Op{}), api.ErrState)
		wantE(t, "Abort", r.Abort(), api.ErrState)
	})
	wantRefused(t, "Commit", r, h, r.Commit, api.ErrState)
	wantStill(t, "one is open", r, h, func() {
		wantE(t, "Begin", r.Begin(), api.OK)
		wantE(t, "Begin", r.Begin(), api.ErrState)
		wantE(t, "Do", r.Do(put("a", "x")), api.OK)
		wantE(t, "Begin", r.Begin(), api.ErrState)
	})
	wantRefused(t, "Merge", r, h, r.Merge, api.ErrState)
	wantStill(t, "aborted", r, h, func() {
		wantE(t, "Abort", r.Abort(), api.OK)
		wantE(t, "Abort", r.Abort(), api.ErrState)
		wantE(t, "Do", r.Do(put("a", "x")), api.ErrState)
	})
	wantRefused(t, "Commit", r, h, r.Commit, api.ErrState)
	id := must2(t, r.Merge)
	wantHeld(t, "merged", r, a, b, child(1, nil, a, b))
	begin(t, r, put("a", "y"))
	id2 := must2(t, r.Commit)
	if n := nodeAt(t, r, id2); !slices.Equal(n.Parents, []api.Hash{id}) || len(n.Ops) != 1 || n.Ops[0] != put("a", "y") {
		t.Errorf("behind Abort: %v", n)
	}
	wantRefused(t, "Commit again", r, h, r.Commit, api.ErrState)
	wantRefused(t, "Merge of one head", r, h, r.Merge, api.ErrHeads)
	begin(t, r)
	id3 := must2(t, r.Commit)
	if n := nodeAt(t, r, id3); len(n.Ops) != 0 {
		t.Errorf("behind Begin: %v", n.Ops)
	}
}

// P22.1: ErrState comes ahead of all else that a transaction may be refused for.
func TestStateFirst(t *testing.T) {
	r, h := with(t, wide(api.MaxNodes)...)
	_, e := r.Commit()
	wantE(t, "Commit, with too many heads, full", e, api.ErrState)
	begin(t, r)
	_, e = r.Merge()
	wantE(t, "Merge, open and full", e, api.ErrState)
	_, e = r.Commit()
	wantE(t, "Commit", e, api.ErrHeads)
	wantE(t, "Abort", r.Abort(), api.OK)
	_, e = r.Merge()
	wantE(t, "Merge, full", e, api.ErrMany)
	if h.Acts() != 1 {
		t.Errorf("%d acts", h.Acts())
	}
}

// P22.1: Do refuses what may not be, by its kind, and keeps nothing of it; the others stand in their order.
func TestDoRefuses(t *testing.T) {
	r, h := with(t, made("a"))
	node := api.Hash{1}
	l := []api.Op{put("a", "x"), insert("l", "y"), insert("l", "z", api.Ident{Op: 2}), {Kind: api.OpDelete, Key: "l", At: api.Ident{Op: 3}}}
	begin(t, r)
	refused := func() {
		for _, x := range []struct {
			o    api.Op
			want api.Errno
		}{
			{api.Op{}, api.ErrKind},
			{api.Op{Kind: 10, Key: "a"}, api.ErrKind},
			{api.Op{Kind: -1}, api.ErrKind},
			{put(strings.Repeat("k", api.MaxKey+1), ""), api.ErrBytes},
			{add("a", strings.Repeat("t", api.MaxText+1)), api.ErrBytes},
			{api.Op{Kind: api.OpClear, Key: "a", Text: "x"}, api.ErrField},
			{api.Op{Kind: api.OpPut, Key: "a", N: 1}, api.ErrField},
			{api.Op{Kind: api.OpDelete, Key: "l"}, api.ErrAt},
			{insert("m", "x", api.Ident{Op: 2}), api.ErrAt},
			{insert("l", "x", api.Ident{Op: 5}), api.ErrAt},
			{insert("l", "x", api.Ident{Op: 1}), api.ErrAt},
			{insert("l", "x", api.Ident{Node: node, Op: 1025}), api.ErrAt},
			{insert("l", "x", api.Ident{Node: node}), api.ErrAt},
		} {
			wantE(t, fmt.Sprintf("Do(%.60v)", x.o), r.Do(x.o), x.want)
		}
	}
	wantStill(t, "Do", r, h, func() {
		for _, o := range l {
			refused()
			wantE(t, "Do", r.Do(o), api.OK)
		}
		refused()
	})
	if n := nodeAt(t, r, must2(t, r.Commit)); !slices.Equal(n.Ops, l) {
		t.Errorf("operations: %v; want %v", n.Ops, l)
	}
}

// P22.1: an At of its own transaction is held against those that stand there, not against others.
func TestDoPlaces(t *testing.T) {
	r, _ := with(t)
	begin(t, r, insert("l", "x"))
	wantE(t, "Abort", r.Abort(), api.OK)
	begin(t, r)
	wantE(t, "behind one that was let go", r.Do(insert("l", "y", api.Ident{Op: 1})), api.ErrAt)
	begun := insert("l", "z")
	wantE(t, "Do", r.Do(begun), api.OK)
	id := must2(t, r.Commit)
	begin(t, r, insert("l", "behind", api.Ident{Node: id, Op: 1}), insert("l", "of nobody", api.Ident{Node: api.Hash{9}, Op: 7}))
	must2(t, r.Commit)
	items := must2(t, func() ([]api.Item, api.Errno) { return r.Items("l") })
	if len(items) != 2 || items[0].Text != "z" || items[1].Text != "behind" {
		t.Errorf("items: %v", items)
	}
}

// P22.1: MaxOps operations, and one more: ErrMany, ahead of what is wrong with it.
func TestMaxOps(t *testing.T) {
	r, _ := with(t)
	begin(t, r)
	for i := range api.MaxOps {
		wantE(t, "Do", r.Do(incr("n", int64(i))), api.OK)
	}
	for _, o := range []api.Op{incr("n", 1), {}, put("a", strings.Repeat("t", api.MaxText+1)), {Kind: api.OpDelete, Key: "l"}} {
		wantE(t, "one more", r.Do(o), api.ErrMany)
	}
	if n := nodeAt(t, r, must2(t, r.Commit)); len(n.Ops) != api.MaxOps || n.Ops[1023] != incr("n", 1023) {
		t.Errorf("%d operations", len(n.Ops))
	}
	begin(t, r, incr("n", -1))
	must2(t, r.Commit)
	if n := must2(t, func() (int64, api.Errno) { return r.Count("n") }); n != 1023*1024/2-1 {
		t.Errorf("n is %d", n)
	}
}

// P22.1, P22.3: the parents of a commit are all heads, its clock is one above the greatest of theirs, its author the replica; what the disk gets is its block's frame, and a Sync.
func TestCommit(t *testing.T) {
	a, x := made("a"), made("x")
	b := made("b", a)
	c := made("c", b)
	for _, l := range [][]string{nil, {a}, {x, a}, {a, b}, {a, b, x}, {x, a, b, c}, {a, b, c, made("b2", a), x}} {
		for _, ops := range [][]api.Op{nil, {put("a", "x")}, {add("s", "1"), incr("n", 2), insert("l", "z")}} {
			want := child(1, ops, heads(l)...)
			r, _ := with(t, l...)
			if h := commit(t, r, ops...); h != hashOf(want) {
				t.Errorf("%d held: %v; want %v", len(l), nodeAt(t, r, h), nodeOf(want))
			}
			wantHeld(t, "committed", r, append(slices.Clone(l), want)...)
			if heads := must2(t, r.Heads); !slices.Equal(heads, []api.Hash{hashOf(want)}) {
				t.Errorf("heads %s", show(heads))
			}
			wantDone(t, "Commit", 1<<20, l, func(r *replica.Replica) api.Errno {
				begin(t, r, ops...)
				_, e := r.Commit()
				return e
			}, appends(0, want), syncs(0))
		}
	}
}

// P22.1: a commit that has no room in the present segment goes into the next one, the present one being synced ahead of it.
func TestCommitSegments(t *testing.T) {
	a := made(strings.Repeat("a", 64000))
	small, ops := put("a", "x"), []api.Op{put("a", strings.Repeat("y", 3000))}
	call := func(l ...api.Op) func(r *replica.Replica) api.Errno {
		return func(r *replica.Replica) api.Errno {
			begin(t, r, l...)
			_, e := r.Commit()
			return e
		}
	}
	wantDone(t, "in the present one", 1<<20, []string{a}, call(small), appends(0, child(1, []api.Op{small}, a)), syncs(0))
	wantDone(t, "in the next one", 1<<20, []string{a}, call(ops...), syncs(0), appends(1, child(1, ops, a)), syncs(1))
	room := len(frameOf(a)) + len(frameOf(child(1, ops, a)))
	wantDone(t, "with just the room", room, []string{a}, call(ops...), syncs(0), appends(1, child(1, ops, a)), syncs(1))

	d, h := disk.Lay(room-1, journalOf(a))
	r := open(t, d)
	begin(t, r, ops...)
	was, acts := look(r), h.Acts()
	_, e := r.Commit()
	wantE(t, "with a byte less", e, api.ErrRoom)
	if look(r) != was || h.Acts() != acts+1 || !sameFiles(h.Files(), journalOf(a)) { // the Sync of the present one
		t.Errorf("with a byte less: %d acts, %s", h.Acts()-acts, showFiles(h.Files()))
	}
	wantE(t, "it is open still", r.Begin(), api.ErrState)
	wantE(t, "Abort", r.Abort(), api.OK)
	commit(t, r, small)
	if h.Acts() != acts+3 {
		t.Errorf("a small one then: %d acts", h.Acts()-acts)
	}
}

// P22.1, P22.5: no room: the transaction stays open, nothing has changed; with less in it, it may be taken, and with more room, too.
func TestCommitRoom(t *testing.T) {
	a := made("a")
	ops := []api.Op{put("a", "x")}
	want := child(1, ops, a)
	room := len(frameOf(a)) + len(frameOf(want))
	for less := range 4 {
		d, h := disk.Lay(room-less, journalOf(a))
		r := open(t, d)
		begin(t, r, ops...)
		if less == 0 {
			must2(t, r.Commit)
			continue
		}
		for range 3 {
			wantRefused(t, "no room", r, h, r.Commit, api.ErrRoom)
		}
		wantE(t, "Begin", r.Begin(), api.ErrState)
		wantE(t, "Do", r.Do(put("a", "y")), api.OK)
		wantRefused(t, "with one more", r, h, r.Commit, api.ErrRoom)
		wantE(t, "Abort", r.Abort(), api.OK)
		begin(t, r)
		must2(t, r.Commit)
	}
	d, h := disk.Lay(room, append(journalOf(a), api.File{Name: "other", Bytes: make([]byte, room)}))
	r := open(t, d)
	begin(t, r, ops...)
	wantRefused(t, "no room", r, h, r.Commit, api.ErrRoom)
	d.Cut("other", 0)
	if id := must2(t, r.Commit); id != hashOf(want) {
		t.Error("what was refused, and then taken, is another one")
	}
	wantHeld(t, "taken then", r, a, want)
	wantE(t, "Abort", r.Abort(), api.ErrState)
}

// P22.1: too many files on the disk count as no room.
func TestCommitFiles(t *testing.T) {
	files := []api.File{}
	for i := range api.MaxFiles {
		files = append(files, api.File{Name: fmt.Sprint("other", i)})
	}
	d, h := disk.Lay(1<<20, files)
	r := open(t, d)
	begin(t, r, put("a", "x"))
	wantRefused(t, "no file more", r, h, r.Commit, api.ErrRoom)
	d.Drop("other7")
	must2(t, r.Commit)
}

// ofSize tells operations of a commit of author 1 whose block over these parents has just so many bytes.
func ofSize(n int, parents ...string) []api.Op {
	l := []api.Op{}
	for range 15 {
		l = append(l, put("k", strings.Repeat("x", 65536)))
	}
	rest := n - len(child(1, append(slices.Clone(l), put("a", strings.Repeat("x", 20000)), put("b", strings.Repeat("x", 20000))), parents...))
	return append(l, put("a", strings.Repeat("x", 20000+rest/2)), put("b", strings.Repeat("x", 20000+rest-rest/2)))
}

// P22.1: a block of MaxNode bytes is taken, one of more isn't, however much more; parents count.
func TestMaxNode(t *testing.T) {
	for _, l := range [][]string{nil, {made("a")}, wide(64)} {
		ops := ofSize(api.MaxNode, l...)
		if n := len(child(1, ops, l...)); n != api.MaxNode {
			t.Fatalf("%d bytes", n)
		}
		d, h := disk.Lay(1<<22, journalOf(l...))
		r := open(t, d)
		begin(t, r, ops...)
		wantStill(t, "one more operation", r, h, func() { wantE(t, "Do", r.Do(api.Op{Kind: api.OpClear}), api.OK) })
		wantRefused(t, "two bytes more", r, h, r.Commit, api.ErrBytes)
		wantE(t, "Do", r.Do(put("a", strings.Repeat("x", 60000))), api.OK)
		wantRefused(t, "many bytes more", r, h, r.Commit, api.ErrBytes)
		wantE(t, "Abort", r.Abort(), api.OK)
		begin(t, r, ofSize(api.MaxNode+1, l...)...)
		wantRefused(t, "a byte more", r, h, r.Commit, api.ErrBytes)
		wantE(t, "Abort", r.Abort(), api.OK)
		want := child(1, ops, l...)
		if id := commit(t, r, ops...); id != hashOf(want) {
			t.Errorf("another transaction")
		}
		wantHeld(t, "MaxNode", r, append(slices.Clone(l), want)...)
		wantHeld(t, "MaxNode, opened again", open(t, d), append(slices.Clone(l), want)...)
	}
}

// P22.1: up to MaxParents heads are parents of a commit; with more it is refused, until a merge has made them fewer.
func TestCommitHeads(t *testing.T) {
	for _, n := range []int{2, 63, 64} {
		l := wide(n)
		r, _ := with(t, l...)
		if h := commit(t, r, put("a", "x")); h != hashOf(child(1, []api.Op{put("a", "x")}, l...)) {
			t.Errorf("%d heads: %v", n, nodeAt(t, r, h))
		}
	}
	for _, n := range []int{65, 66, 200} {
		l := wide(n)
		r, h := with(t, l...)
		begin(t, r, put("a", "x"))
		wantRefused(t, fmt.Sprint(n, " heads"), r, h, r.Commit, api.ErrHeads)
		wantE(t, "Abort", r.Abort(), api.OK)
		for len(must2(t, r.Heads)) > 64 {
			must2(t, r.Merge)
		}
		heads := must2(t, r.Heads)
		if n := nodeAt(t, r, commit(t, r, put("a", "x"))); !slices.Equal(n.Parents, heads) || n.Clock < 3 {
			t.Errorf("behind merges: %v", n)
		}
	}
}

// P22.1: ErrHeads comes ahead of ErrMany, that ahead of ErrBytes, that ahead of ErrRoom.
func TestCommitOrder(t *testing.T) {
	big := ofSize(api.MaxNode + 1)
	l := wide(64)
	full := []string{made("root")}
	for len(full) < api.MaxNodes {
		full = append(full, made("next", full[len(full)-1]))
	}
	for what, x := range map[string]struct {
		held []string
		want api.Errno
	}{
		"too many heads, full, too long": {wide(api.MaxNodes), api.ErrHeads},
		"too many heads, too long":       {append(slices.Clone(l), made("65")), api.ErrHeads},
		"full, too long":                 {full, api.ErrMany},
		"too long, no room":              {l, api.ErrBytes},
	} {
		d, h := disk.Lay(0, []api.File{seg(0, framesOf(x.held...))})
		r := open(t, d)
		begin(t, r, big...)
		if id, e := r.Commit(); e != x.want || id != (api.Hash{}) || h.Acts() != 1 {
			t.Errorf("%s: %x, %d, %d acts; want %d", what, id, e, h.Acts()-1, x.want)
		}
		wantE(t, "it is open still", r.Begin(), api.ErrState)
	}
}

// P22.1: a merge is a transaction without operations over all heads, or over the least MaxParents of them.
func TestMerge(t *testing.T) {
	a, x := made("a"), made("x")
	b := made("b", a)
	for _, l := range [][]string{{a, x}, {a, b, x}, {x, a, b, made("c", b), made("b2", a)}, wide(3), wide(63), wide(64), wide(65), wide(66), wide(200)} {
		want := child(1, nil, least(64, heads(l))...)
		r, h := with(t, l...)
		shown := must2(t, r.Cells)
		if id := must2(t, r.Merge); id != hashOf(want) {
			t.Errorf("%d heads: %v", len(heads(l)), nodeAt(t, r, id))
		}
		wantHeld(t, "merged", r, append(slices.Clone(l), want)...)
		if cells := must2(t, r.Cells); tell(cells) != tell(shown) {
			t.Error("a merge has changed what is shown")
		}
		if n := len(headsOf(l...)); n <= 64 {
			wantRefused(t, "again", r, h, r.Merge, api.ErrHeads)
		} else if heads := must2(t, r.Heads); len(heads) != n-63 {
			t.Errorf("%d heads; want %d", len(heads), n-63)
		}
		wantDone(t, "Merge", 1<<20, l, func(r *replica.Replica) api.Errno { _, e := r.Merge(); return e }, appends(0, want), syncs(0))
	}
}

// least tells the blocks of the least hashes, so many at most.
func least(n int, l []string) []string {
	l = slices.Clone(l)
	slices.SortFunc(l, func(a, b string) int { return compare(hashOf(a), hashOf(b)) })
	return l[:min(n, len(l))]
}

// P22.1, P22.5: Merge with none or one head, without room, and in a replica that is full.
func TestMergeRefused(t *testing.T) {
	a, x := made("a"), made("x")
	r, h := with(t)
	wantRefused(t, "no heads", r, h, r.Merge, api.ErrHeads)
	r, h = with(t, a, made("b", a))
	wantRefused(t, "one head", r, h, r.Merge, api.ErrHeads)
	d, h := disk.Lay(0, journalOf(a, x))
	r = open(t, d)
	wantRefused(t, "no room", r, h, r.Merge, api.ErrRoom)
	begin(t, r)
	wantRefused(t, "open, and no room", r, h, r.Merge, api.ErrState)
	for _, l := range [][]string{nil, {a}} {
		r, h = with(t, l...)
		begin(t, r)
		wantRefused(t, "open, and too few heads", r, h, r.Merge, api.ErrState)
	}
}

// P22.1: with MaxNodes - 1 held one more is taken, by a commit or a merge; then none.
func TestMaxNodes(t *testing.T) {
	l := []string{made("root"), made("beside")}
	for len(l) < api.MaxNodes-1 {
		l = append(l, made("next", l[len(l)-1]))
	}
	for _, merging := range []bool{true, false} {
		r, h := with(t, l...)
		if merging {
			must2(t, r.Merge)
		} else {
			commit(t, r, put("a", "x"))
		}
		if n := len(must2(t, r.Held)); n != api.MaxNodes {
			t.Errorf("%d are held", n)
		}
		acts := h.Acts()
		begin(t, r, put("a", "y"))
		_, e := r.Commit()
		wantE(t, "Commit", e, api.ErrMany)
		wantE(t, "Abort", r.Abort(), api.OK)
		_, e = r.Merge()
		wantE(t, "Merge", e, api.ErrHeads)
		_, taken := deliver(t, r, blocksTo(1, made("more"), l[3], made("w", made("nobody's"))))
		wantTaken(t, "more", taken, nil)
		if h.Acts() != acts || len(must2(t, r.Waiting)) != 1 {
			t.Errorf("%d acts", h.Acts()-acts)
		}
		deliver(t, r, blocksTo(1, made("w2", made("nobody's"))))
		if held := must2(t, r.Held); len(held) != api.MaxNodes {
			t.Errorf("%d are held", len(held))
		}
	}
}

// P22.1: the greatest clock that there is, at the end of a chain of MaxNodes.
func TestLongestChain(t *testing.T) {
	l := []string{made("root")}
	for len(l) < api.MaxNodes-1 {
		l = append(l, made("next", l[len(l)-1]))
	}
	r, _ := with(t, l...)
	if n := nodeAt(t, r, commit(t, r)); n.Clock != api.MaxNodes {
		t.Errorf("clock %d", n.Clock)
	}
}

// P22.1: what waited for a commit or a merge is taken with it, ahead of the Sync; where there is no room for it, or its clock doesn't fit, it is lost, and the commit is taken all the same.
func TestFollowers(t *testing.T) {
	a, x := made("a"), made("x")
	ops := []api.Op{put("a", "x")}
	for _, merging := range []bool{false, true} {
		var own string
		call := func(r *replica.Replica) api.Errno { begin(t, r, ops...); _, e := r.Commit(); return e }
		if own = child(1, ops, a, x); merging {
			own = child(1, nil, a, x)
			call = func(r *replica.Replica) api.Errno { _, e := r.Merge(); return e }
		}
		y := made("y", own)
		z := made("z", y, a)
		bad := misfit(1, made("bad", own))
		waiting := []string{z, bad, y, made("w", made("nobody's"))}
		all := len(framesOf(a, x, own, y, z))
		for _, room := range []struct {
			bytes int
			held  []string
			waits []string
		}{
			{all, []string{a, x, own, y, z}, waiting[3:]},
			{all - 1, []string{a, x, own, y}, waiting[3:]},
			{len(framesOf(a, x, own)), []string{a, x, own}, []string{z, waiting[3]}},
		} {
			acts := []act{}
			for _, b := range room.held[2:] {
				acts = append(acts, appends(0, b))
			}
			wantActs(t, "followers", func() (*disk.Disk, *disk.Hand, func() api.Errno) {
				d, h := disk.Lay(room.bytes, journalOf(a, x))
				r := open(t, d)
				deliver(t, r, blocksTo(1, waiting...))
				return d, h, func() api.Errno { return call(r) }
			}, append(acts, syncs(0))...)
			d, _ := disk.Lay(room.bytes, journalOf(a, x))
			r := open(t, d)
			deliver(t, r, blocksTo(1, waiting...))
			wantWaiting(t, "followers", r, waiting...)
			wantE(t, "the call", call(r), api.OK)
			wantHeld(t, "followers", r, room.held...)
			wantWaiting(t, "followers", r, room.waits...)
		}
	}
}
