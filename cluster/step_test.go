package cluster_test

import (
	"testing"

	"pleach/api"
	"pleach/cluster"
	"pleach/past"
	"pleach/roots"
	"pleach/state"
)

// cellsOf tells the cells that a history of these blocks shows.
func cellsOf(l ...string) []api.Cell {
	entries := []api.Entry{}
	for _, b := range l {
		entries = append(entries, api.Entry{ID: hashOf(b), Node: nodeOf(b)})
	}
	p, e, _ := past.Of(entries)
	if e != api.OK {
		panic(e)
	}
	return state.Of(p).Cells()
}

// rootOf tells the root of what a history of these blocks shows.
func rootOf(l ...string) api.Hash {
	h, e := roots.Root(cellsOf(l...))
	if e != api.OK {
		panic(e)
	}
	return h
}

// name tells the name of an item: which operation of which block inserted it.
func name(b string, op int) api.Ident { return api.Ident{Node: hashOf(b), Op: op} }

// talk lets all that one has go to another one, and nothing back.
func talk(t *testing.T, c *cluster.Cluster, from, to int) {
	t.Helper()
	do(t, c, tick(to, from), deliver(to, from))
	for c.Do(deliver(from, to)).E == api.OK {
	}
	for c.Do(link(api.StepDrop, to, from)).E == api.OK { // what was asked for in turn
	}
}

// P23.1: Begin, Do, Commit and Abort: each with what it answers, and what is done by it.
func TestTransaction(t *testing.T) {
	c := made(t, 2)
	wantsE(t, c, api.ErrState, does(1, put("k", "v")), of(api.StepCommit, 1), of(api.StepAbort, 1))
	wantsE(t, c, api.OK, of(api.StepBegin, 1))
	wantsE(t, c, api.ErrState, of(api.StepBegin, 1), of(api.StepMerge, 1), does(2, put("k", "v")), of(api.StepAbort, 2))
	wantsE(t, c, api.OK, does(1, put("k", "v")))
	wantsE(t, c, api.ErrKind, does(1, api.Op{}), does(1, api.Op{Kind: 10, Key: "k"}))
	wantsE(t, c, api.ErrField, does(1, api.Op{Kind: api.OpClear, Key: "k", Text: "v"}))
	wantsE(t, c, api.ErrAt, does(1, insert("l", "i", api.Ident{Op: 7})))
	wantsE(t, c, api.OK, of(api.StepAbort, 1))
	wantsE(t, c, api.ErrState, of(api.StepAbort, 1))
	holds(t, c, 1)

	// A transaction without operations, and one of two.
	a := commit(t, c, 1, nil)
	b := commit(t, c, 1, []api.Op{put("k", "v"), add("s", "x")}, a)
	holds(t, c, 1, a, b)
	holds(t, c, 2)
	wantsE(t, c, api.ErrHeads, of(api.StepMerge, 1))
}

// P23.1: StepDo counts Op alone, where J isn't 1, whatever I is; other steps take no field that isn't theirs.
func TestFieldsThatDontCount(t *testing.T) {
	c := made(t, 2)
	a := commit(t, c, 1, []api.Op{insert("l", "x"), insert("l", "y"), put("k", "v")})
	for _, j := range []int{0, 2, -1, 257, 1 << 40} {
		for _, i := range []int{-1, 0, 1, 3, 99} {
			do(t, c, of(api.StepBegin, 1))
			s := doesAt(1, i, insert("l", "z", name(a, 2)))
			s.J, s.Key, s.N, s.To = j, "other", 7, 99
			wants(t, c, s, errs(api.OK))
			do(t, c, of(api.StepAbort, 1))
		}
	}
	s := api.Step{Who: 1, To: 99, I: 77, J: 1, N: -3, Op: insert("l", "z"), Key: "k", Heads: []api.Hash{{1}}, Keep: []int{3}, Bytes: []byte("abc")}
	for kind, want := range map[int]api.Answer{
		api.StepRegister: {Texts: []string{"v"}},
		api.StepMembers:  {},
		api.StepCount:    {},
		api.StepItems:    {},
		api.StepCells:    {Cells: cellsOf(a)},
		api.StepRoot:     {Hash: rootOf(a)},
		api.StepHeads:    list(hashOf(a)),
		api.StepHeld:     list(hashOf(a)),
		api.StepFiles:    number(frameSize(a)),
		api.StepMerge:    errs(api.ErrHeads),
		api.StepAbort:    errs(api.ErrState),
		api.StepCommit:   errs(api.ErrState),
	} {
		s.Kind = kind
		wants(t, c, s, want)
	}
}

// shown makes a cluster whose replica 1 holds three blocks, the last two of which have not seen one another; 2 holds the first two, 3 nothing.
func shown(t *testing.T) (c *cluster.Cluster, l []string) {
	t.Helper()
	c = made(t, 3)
	a := commit(t, c, 1, []api.Op{put("k", "1"), add("k", "x"), incr("k", 5), insert("k", "i"), insert("k", "j"), add("k", "w")})
	talk(t, c, 1, 2)
	b := commit(t, c, 2, []api.Op{put("k", "2"), incr("k", -7), insert("k", "m", name(a, 4)), {Kind: api.OpDelete, Key: "k", At: name(a, 5)}}, a)
	d := commit(t, c, 1, []api.Op{put("k", "3"), incr("k", 11), insert("k", "n", name(a, 4)), {Kind: api.OpRemove, Key: "k", Text: "w"}, add("z", "y")}, a)
	talk(t, c, 2, 1)
	return c, []string{a, b, d}
}

// P23.1: the steps that read: each with what it answers, and nothing else.
func TestReading(t *testing.T) {
	c, l := shown(t)
	// What was done by the one that stands later in the one order is the later text, and the earlier item.
	i, m, n := api.Item{ID: name(l[0], 4), Text: "i"}, api.Item{ID: name(l[1], 3), Text: "m"}, api.Item{ID: name(l[2], 3), Text: "n"}
	texts, items := []string{"2", "3"}, []api.Item{i, n, m}
	if compare(hashOf(l[1]), hashOf(l[2])) > 0 {
		texts, items = []string{"3", "2"}, []api.Item{i, m, n}
	}
	wants(t, c, under(api.StepRegister, 1, "k"), api.Answer{Texts: texts})
	wants(t, c, under(api.StepMembers, 1, "k"), api.Answer{Texts: []string{"x"}})
	wants(t, c, under(api.StepCount, 1, "k"), number(9))
	wants(t, c, under(api.StepItems, 1, "k"), api.Answer{Items: items})
	wants(t, c, of(api.StepCells, 1), api.Answer{Cells: cellsOf(l...)})
	wants(t, c, of(api.StepRoot, 1), api.Answer{Hash: rootOf(l...)})
	wants(t, c, of(api.StepHeads, 1), list(rising(hashesOf(l[1:]))...))
	wants(t, c, of(api.StepHeld, 1), list(hashesOf(sorted(l...))...))

	wants(t, c, under(api.StepRegister, 2, "k"), api.Answer{Texts: []string{"2"}})
	wants(t, c, under(api.StepMembers, 2, "k"), api.Answer{Texts: []string{"w", "x"}})
	wants(t, c, under(api.StepCount, 2, "k"), number(-2))
	wants(t, c, under(api.StepMembers, 2, "z"), api.Answer{})
	wants(t, c, under(api.StepMembers, 1, "z"), api.Answer{Texts: []string{"y"}})
	wants(t, c, of(api.StepCells, 2), api.Answer{Cells: cellsOf(l[:2]...)})
	wants(t, c, of(api.StepRoot, 2), api.Answer{Hash: rootOf(l[:2]...)})
	wants(t, c, of(api.StepHeads, 2), list(hashOf(l[1])))
	wants(t, c, of(api.StepHeld, 2), list(hashOf(l[0]), hashOf(l[1])))

	for _, kind := range []int{api.StepRegister, api.StepMembers, api.StepCount, api.StepItems} {
		wants(t, c, under(kind, 3, "k"), api.Answer{})
		wants(t, c, under(kind, 1, ""), api.Answer{})
	}
	wants(t, c, of(api.StepRoot, 3), api.Answer{Hash: rootOf()})
	for _, kind := range []int{api.StepCells, api.StepHeads, api.StepHeld} {
		wants(t, c, of(kind, 3), api.Answer{})
	}
}

// P23.1: StepAt: the cell of each kind at each heads; none, where nothing stands; what may not be.
func TestAt(t *testing.T) {
	c, l := shown(t)
	at := func(who, kind int, key string, heads ...api.Hash) api.Step {
		return api.Step{Kind: api.StepAt, Who: who, I: kind, Key: key, Heads: heads}
	}
	for _, seen := range [][]string{{}, l[:1], l[:2], {l[0], l[2]}, l} {
		for _, key := range []string{"k", "z", ""} {
			for kind := api.CellRegister; kind <= api.CellList; kind++ {
				want := api.Answer{}
				for _, x := range cellsOf(seen...) {
					if x.Kind == kind && x.Key == key {
						want.Cells = append(want.Cells, x)
					}
				}
				wants(t, c, at(1, kind, key, headsOf(seen...)...), want)
				wants(t, c, at(1, kind, key, hashesOf(seen)...), want)
			}
		}
	}
	for _, kind := range []int{0, 5, -1, 99} {
		wantsE(t, c, api.ErrKind, at(1, kind, "k", hashOf(l[0])), at(1, kind, "k", api.Hash{}))
	}
	wantsE(t, c, api.ErrAbsent, at(1, 1, "k", api.Hash{}), at(1, 1, "k", hashOf(l[0]), api.Hash{9}), at(2, 1, "k", hashOf(l[2])), at(3, 1, "k", hashOf(l[0])))
}

// P23.1: StepMerge makes one head of several.
func TestMerge(t *testing.T) {
	c, l := shown(t)
	wantsE(t, c, api.ErrHeads, of(api.StepMerge, 2), of(api.StepMerge, 3))
	m := child(1, nil, l[1], l[2])
	wants(t, c, of(api.StepMerge, 1), api.Answer{Hash: hashOf(m)})
	wants(t, c, of(api.StepHeads, 1), list(hashOf(m)))
	holds(t, c, 1, append(l, m)...)
	wantsE(t, c, api.ErrHeads, of(api.StepMerge, 1))
}

// P23.1: StepDo with J 1: at no item, each item, and one too many; items that are gone aren't counted, nor are those of the open transaction or of other lists.
func TestDoAtItems(t *testing.T) {
	c := made(t, 1)
	shows := func(want string) (l []api.Item) {
		t.Helper()
		got := ""
		l = do(t, c, under(api.StepItems, 1, "l")).Items
		for _, x := range l {
			got += x.Text
		}
		if got != want {
			t.Fatalf("items: %q; want %q", got, want)
		}
		return l
	}
	places := func(n int) {
		t.Helper()
		do(t, c, of(api.StepBegin, 1))
		for _, i := range []int{-1, -1 << 63, n + 1, n + 2, 1<<63 - 1} {
			wantsE(t, c, api.ErrRange, doesAt(1, i, insert("l", "x")), doesAt(1, i, insert("l", "x", api.Ident{Op: 5})), doesAt(1, i, api.Op{Key: "l"}))
		}
		for i := range n + 1 {
			wants(t, c, doesAt(1, i, insert("l", "x")), errs(api.OK))
		}
		do(t, c, of(api.StepAbort, 1))
	}
	commits := func(i int, o api.Op) {
		t.Helper()
		do(t, c, of(api.StepBegin, 1), doesAt(1, i, o), of(api.StepCommit, 1))
	}
	places(0)
	commits(0, insert("l", "b"))
	places(1)
	commits(1, insert("l", "d"))
	commits(0, insert("l", "a"))
	commits(2, insert("l", "c"))
	shows("abcd")
	places(4)
	commits(4, insert("l", "e"))
	commits(2, api.Op{Kind: api.OpDelete, Key: "l"})
	shows("acde")
	places(4)
	commits(0, insert("other", "x"))
	places(4)
	commits(2, insert("l", "y"))
	l := shows("acyde")

	// What stands in Op's At counts for nothing then; where it isn't 1, it does.
	commits(1, insert("l", "p", l[4].ID))
	shows("apcyde")
	do(t, c, of(api.StepBegin, 1), does(1, insert("l", "q", l[4].ID)), of(api.StepCommit, 1))
	shows("apcydeq")

	// Other operations: those that have a place in no list may have none; a beginning can't be deleted.
	do(t, c, of(api.StepBegin, 1))
	wants(t, c, doesAt(1, 0, put("l", "x")), errs(api.OK))
	wants(t, c, doesAt(1, 1, put("l", "x")), errs(api.ErrField))
	wants(t, c, doesAt(1, 8, put("l", "x")), errs(api.ErrRange))
	wants(t, c, doesAt(1, 0, incr("none", 1)), errs(api.OK))
	wants(t, c, doesAt(1, 1, insert("none", "x")), errs(api.ErrRange))
	wants(t, c, doesAt(1, 1, api.Op{Kind: 77, Key: "l"}), errs(api.ErrKind))
	do(t, c, of(api.StepAbort, 1))

	// The list is asked ahead of whether a transaction is open.
	wants(t, c, doesAt(1, 8, insert("l", "x")), errs(api.ErrRange))
	wants(t, c, doesAt(1, 7, insert("l", "x")), errs(api.ErrState))
	wants(t, c, does(1, insert("l", "x")), errs(api.ErrState))
}

// P23.1: New: clusters of one replica up to as many as may be, each open on an empty disk, with empty slots, and nothing under way.
func TestNew(t *testing.T) {
	for n := 1; n <= 8; n++ {
		for _, room := range []int{-1 << 63, -1, 0, 1, 1<<63 - 1} {
			c := made(t, n, room)
			for who := 1; who <= n; who++ {
				for _, kind := range []int{api.StepHeld, api.StepHeads, api.StepCells, api.StepFiles} {
					wants(t, c, of(kind, who), api.Answer{})
				}
				for slot := range 8 {
					wants(t, c, load(who, slot), errs(api.ErrShort))
				}
				for to := 1; to <= n; to++ {
					if to != who {
						wants(t, c, deliver(who, to), errs(api.ErrAbsent))
					}
				}
			}
			for _, who := range []int{0, n + 1, -1, 99, -1 << 63, 1<<63 - 1} {
				wants(t, c, of(api.StepHeld, who), errs(api.ErrArg))
			}
		}
	}
}

// P23.1: a cluster of one replica, which has no link.
func TestAlone(t *testing.T) {
	c := made(t, 1)
	a := commit(t, c, 1, []api.Op{put("k", "v")})
	for kind := api.StepTick; kind <= api.StepClip; kind++ {
		for _, to := range []int{0, 1, 2, -1, 8, 9} {
			wants(t, c, link(kind, 1, to), errs(api.ErrArg))
		}
	}
	holds(t, c, 1, a)
	wants(t, c, export(1, 0), api.Answer{Bytes: arkOf(a)})
}

// P23.1: a cluster of as many replicas as may be: each talks with each other one, and each has a disk of its own.
func TestEight(t *testing.T) {
	c := made(t, 8)
	all := []string{}
	for who := 1; who <= 8; who++ {
		all = append(all, commit(t, c, who, []api.Op{incr("n", int64(who))}))
	}
	for who := 1; who <= 8; who++ {
		holds(t, c, who, all[who-1])
		wants(t, c, of(api.StepFiles, who), number(frameSize(all[who-1])))
	}
	for from := 1; from <= 8; from++ {
		for to := 1; to <= 8; to++ {
			if from != to {
				talk(t, c, from, to)
			}
		}
	}
	for who := 1; who <= 8; who++ {
		holds(t, c, who, all...)
		wants(t, c, under(api.StepCount, who, "n"), number(36))
	}
}

// P23.1: New refuses numbers of replicas, and keys, that may not be.
func TestNewRefused(t *testing.T) {
	refused := func(n int, key []byte) {
		t.Helper()
		if c, e := cluster.New(n, 1000, key); c != nil || e != api.ErrArg {
			t.Errorf("New(%d, %d bytes): %v, %d", n, len(key), c, e)
		}
		if l, e := cluster.Run(cluster.Game{N: n, Room: 1000, Key: key}); len(l) != 0 || e != api.ErrArg {
			t.Errorf("Run(%d, %d bytes): %v, %d", n, len(key), l, e)
		}
	}
	for _, n := range []int{0, 9, -1, 10, 257, -1 << 63, 1<<63 - 1} {
		refused(n, key7())
		refused(n, nil)
	}
	for _, size := range []int{0, 1, 31, 33, 64, 288} {
		refused(2, make([]byte, size))
	}
	refused(1, nil)
}
