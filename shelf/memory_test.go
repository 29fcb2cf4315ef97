package shelf_test

import (
	"slices"
	"testing"

	"pleach/api"
	"pleach/shelf"
)

// fill fills a list, its spare room too.
func fill[T any](l []T, x T) {
	l = l[:cap(l)]
	for i := range l {
		l[i] = x
	}
}

// fillHashes fills lists of hashes, their spare room too, with a hash that nobody has.
func fillHashes(l ...[]api.Hash) {
	for _, x := range l {
		fill(x, api.Hash{255, 255})
	}
}

// fillEntry fills the lists of an entry.
func fillEntry(x api.Entry) {
	fillHashes(x.Node.Parents)
	fill(x.Node.Ops, api.Op{Kind: api.OpWipe, Key: "filled"})
}

// busy tells a shelf that holds some, in which others wait.
func busy() *shelf.Shelf {
	return with(a, b, c, a2, a3, made("w", 2, gone), made("v", 3, made("u", 2, gone), made("w", 2, gone)))
}

// P12.5: what is handed in stays as it was, its spare room too, whatever is answered.
func TestHandedIn(t *testing.T) {
	refuses := func(string) api.Errno { return api.ErrRoom }
	dead := func(string) api.Errno { return api.ErrPower }
	for _, answer := range []func(string) api.Errno{content, refuses, dead} {
		for _, rows := range [][]string{{a, b, c, b}, {c, b, a, c}, {d, a, d}, {"", "\x02", a + "\x00", a[:5]}} {
			s, _ := over(answer)
			for _, row := range rows {
				whole := []byte(row + "spare room")
				s.Take(whole[:len(row)])
				if string(whole) != row+"spare room" {
					t.Errorf("what was handed in was changed: %x", whole)
				}
			}
		}
	}
}

// P12.5: what is handed in may be written over behind it, whether it is held, waits, or is a follower later.
func TestTakeKeepsNothing(t *testing.T) {
	want := with(f, c, b, a2, a, made("w", 2, gone))
	for _, s := range []*shelf.Shelf{shelf.New(nil), shelf.New(&keeper{answer: content})} {
		for _, row := range []string{f, c, b, a2, a, made("w", 2, gone), a, f} {
			mine := append(make([]byte, 0, len(row)+40), row...)
			s.Take(mine)
			fill(mine, 0xaa)
		}
		if look(s) != look(want) {
			t.Error("what was handed in is kept")
		}
		wantHeld(t, s, f)
	}
}

// greedy keeps the very lists that it is handed.
type greedy struct{ rows [][]byte }

func (g *greedy) Keep(b []byte) api.Errno {
	g.rows = append(g.rows, b)
	return api.OK
}

// P12.5, and what the chapter says of keepers: the list that Keep is handed is the keeper's own: it may keep it, and write into it later; nobody else does.
func TestKeepersOwn(t *testing.T) {
	g := &greedy{}
	s := shelf.New(g)
	mine := [][]byte{}
	for _, row := range []string{c, b, a, a2, f} {
		mine = append(mine, []byte(row))
		s.Take(mine[len(mine)-1])
	}
	for _, row := range mine {
		fill(row, 0xaa)
	}
	for _, h := range s.Order() {
		row, _ := s.Block(h)
		fill(row, 0xbb)
	}
	was := look(s)
	for i, row := range []string{a, b, c, a2, f} {
		if string(g.rows[i]) != row {
			t.Errorf("the keeper's block %d was changed", i)
		}
		fill(g.rows[i], 0xcc)
	}
	if look(s) != was {
		t.Error("the keeper's blocks are the shelf's")
	}
	wantHeld(t, s, f)
}

// P12.5: blocks and entries that are answered are new memory, their lists too.
func TestBlockMemory(t *testing.T) {
	s := busy()
	was := look(s)
	for _, h := range s.Order() {
		one, _ := s.Block(h)
		two, _ := s.Block(h)
		kept := string(two)
		fill(one, 0xee)
		if string(two) != kept {
			t.Error("two answers of Block share memory")
		}
		fill(two, 0xee)
		x, _ := s.Entry(h)
		y, _ := s.Entry(h)
		parents, ops := slices.Clone(y.Node.Parents), slices.Clone(y.Node.Ops)
		fillEntry(x)
		if !slices.Equal(y.Node.Parents, parents) || !slices.Equal(y.Node.Ops, ops) {
			t.Error("two answers of Entry share memory")
		}
		fillEntry(y)
	}
	if look(s) != was {
		t.Error("what was answered is the shelf's")
	}
}

// P12.5: lists of hashes that are answered are new memory, spare room too; they stay as they were, whatever the shelf is told behind them.
func TestListsMemory(t *testing.T) {
	answers := func(s *shelf.Shelf) [][]api.Hash {
		return [][]api.Hash{s.Heads(), s.Missing(), s.Order(), s.Waiting()}
	}
	s := busy()
	was := look(s)
	one, two := answers(s), answers(s)
	fillHashes(one...)
	for i, l := range answers(s) {
		if len(l) == 0 || !slices.Equal(l, two[i]) {
			t.Errorf("list %d: %s and %s", i, show(l), show(two[i]))
		}
	}
	if look(s) != was {
		t.Error("what was answered is the shelf's")
	}
	kept := [][]api.Hash{}
	for _, l := range two {
		kept = append(kept, slices.Clone(l))
	}
	wantTook(t, s, gone, []string{made("w", 2, gone)})
	wantTook(t, s, f, nil)
	wantWaits(t, s, made("x", 5, made("no", 4, f)))
	for i, l := range two {
		if !slices.Equal(l, kept[i]) {
			t.Errorf("an old list %d was changed", i)
		}
	}
}

// P12.5: the lists of what Take answers are new memory, and share none.
func TestTakenMemory(t *testing.T) {
	y, z := made("y", 2, a), made("z", 5, a)
	s := with(y, d, b, z, c, f)
	taken, _ := s.Take([]byte(a))
	was := look(s)
	fillHashes(taken.IDs)
	wantList(t, "Lost", taken.Lost, d, z)
	fillHashes(taken.Lost)
	if look(s) != was {
		t.Error("what was answered is the shelf's")
	}
	wantTook(t, s, a2, []string{f})
	wantList(t, "Order", s.Order(), sortOrder(a, y, b, c, a2, f)...)

	s = shelf.New(nil)
	for i := range 65 {
		taken, _ = s.Take([]byte(orphan(i)))
	}
	was = look(s)
	wantList(t, "Lost", taken.Lost, orphan(0))
	fillHashes(taken.Lost, taken.IDs)
	if look(s) != was {
		t.Error("what was answered is the shelf's")
	}
	wantWaits(t, s, orphan(65), orphan(1))
}

// P12.5: a history that was told stays as it was, whatever the shelf is told behind it; what it answers isn't the shelf's.
func TestPastMemory(t *testing.T) {
	s := with(a, b, f)
	p := s.Past()
	wantTook(t, s, c, nil)
	wantTook(t, s, a2, []string{f})
	if p.Len() != 2 || p.Number(hashOf(c)) != -1 || s.Past().Len() != 5 {
		t.Error("a history has come to know more, or a later one hasn't")
	}
	was := look(s)
	for range 2 {
		for _, x := range s.Past().All() {
			fillEntry(x)
		}
		fillHashes(s.Past().Heads())
	}
	if look(s) != was {
		t.Error("what a history answered is the shelf's")
	}
}

// P12.5: two shelves have nothing in common.
func TestTwoShelves(t *testing.T) {
	one, two := with(a), with()
	mine := []byte(b)
	one.Take(mine)
	two.Take(mine)
	wantAll(t, one, []string{a, b})
	wantAll(t, two, nil, b)
	dead, k := over(but(a2, api.ErrPower), a, a2)
	wantDead(t, dead, k)
	wantTook(t, two, a, []string{b})
	wantTook(t, one, a2, nil)
}
