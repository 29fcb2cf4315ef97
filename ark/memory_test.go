package ark_test

import (
	"slices"
	"testing"

	"pleach/api"
	"pleach/ark"
	"pleach/shelf"
)

// fill fills a list, its spare room too.
func fill[T any](l []T, x T) {
	l = l[:cap(l)]
	for i := range l {
		l[i] = x
	}
}

// spare tells a row with room behind it.
func spare(row string) []byte { return []byte(row + "spare room")[:len(row)] }

// wantKept fails, if a row that spare told has been changed, its spare room too.
func wantKept(t *testing.T, what string, got []byte, row string) {
	t.Helper()
	if string(got[:len(row)+10]) != row+"spare room" {
		t.Errorf("%s: what was handed in was changed: %x", what, got[:len(row)+10])
	}
}

// P13.6: what is handed in stays as it was, its spare room too, whatever is answered.
func TestHandedIn(t *testing.T) {
	good := arkOf(a, b, c)
	for _, row := range []string{"", "PLEACHA1", good, good[:50], good + "\x00", arkOf(), arkOf(b), arkOf(a, a), arkOf("\x01\x09"), good[:len(good)-1] + "x"} {
		mine := spare(row)
		ark.Unpack(mine)
		wantKept(t, "Unpack", mine, row)
		ark.Load(with(b, a2), mine)
		wantKept(t, "Load", mine, row)
		ark.Load(over(refuser{b: api.ErrRoom}), mine)
		wantKept(t, "Load, refused", mine, row)
	}
}

// P13.6: what was handed in may be written over behind it: neither the blocks nor the shelf have any of it.
func TestWrittenOver(t *testing.T) {
	l := sorted(a, b, c, a2, f)
	mine := spare(arkOf(l...))
	got, _ := ark.Unpack(mine)
	fill(mine, 0xaa)
	if !slices.Equal(texts(got), l) {
		t.Error("the blocks are what was handed in")
	}
	s := with(f, a3)
	mine = spare(arkOf(l...))
	taken, _ := ark.Load(s, mine)
	fill(mine, 0xaa)
	if look(s) != look(with(append(l, a3)...)) || len(taken.IDs) != 5 {
		t.Error("the shelf has kept what was handed in")
	}
}

// P13.6: each block that is answered is memory of its own, spare room too; so is the list of them.
func TestBlocksMemory(t *testing.T) {
	l := sorted(a, b, c, a2, f)
	row := []byte(arkOf(l...))
	for i := range l {
		got, _ := ark.Unpack(row)
		again, _ := ark.Unpack(row)
		fill(got[i], 0xee)
		for j, x := range got {
			if j != i && string(x) != l[j] {
				t.Errorf("blocks %d and %d share memory", i, j)
			}
		}
		fill(got, nil)
		if !slices.Equal(texts(again), l) || string(row) != arkOf(l...) {
			t.Error("an answer shares memory with another one, or with what was handed in")
		}
	}
}

// P13.6: an ark that is answered is new memory, spare room too: the shelf stays as it was, and so does an older ark when more is taken.
func TestPackMemory(t *testing.T) {
	s := with(a, b, c, a2, made("w", 2, gone))
	was := look(s)
	one, two := ark.Pack(s), ark.Pack(s)
	fill(one, 0xee)
	if string(two) != arkOf(sorted(a, b, c, a2)...) {
		t.Error("two arks share memory")
	}
	if look(s) != was {
		t.Error("an ark is the shelf's")
	}
	s.Take([]byte(f))
	s.Take([]byte(gone))
	if string(two) != arkOf(sorted(a, b, c, a2)...) {
		t.Error("an old ark was changed")
	}
	fill(two, 0xee)
	wantArk(t, "filled", s, sorted(a, b, c, a2, f, gone, made("w", 2, gone))...)
}

// P13.6: the lists of what Load answers are new memory, and share none, with a refusal too.
func TestTakenMemory(t *testing.T) {
	d, e := made("d", 3, a), made("e", 9, b)
	for _, k := range []refuser{{}, {c: api.ErrRoom}} {
		s := over(k, d, e)
		taken, _ := ark.Load(s, []byte(arkOf(a, b, c)))
		was := look(s)
		fill(taken.IDs, api.Hash{255, 255})
		if !slices.Equal(taken.Lost, hashesOf([]string{d, e})) {
			t.Errorf("Lost: %s", show(taken.Lost))
		}
		fill(taken.Lost, api.Hash{255, 255})
		if look(s) != was {
			t.Error("what was answered is the shelf's")
		}
	}
}

// greedy is a keeper that keeps the very lists that it is handed.
type greedy struct{ rows [][]byte }

func (g *greedy) Keep(b []byte) api.Errno {
	g.rows = append(g.rows, b)
	return api.OK
}

// P13.6: what a keeper is handed in a Load is the keeper's own.
func TestKeepersOwn(t *testing.T) {
	g := &greedy{}
	s := shelf.New(g)
	mine := []byte(arkOf(a, b, c))
	ark.Load(s, mine)
	for _, row := range g.rows {
		fill(row, 0xcc)
	}
	if string(mine) != arkOf(a, b, c) {
		t.Error("the keeper's blocks are what was handed in")
	}
	wantArk(t, "kept", s, a, b, c)
}

// P13.6: the shelf isn't kept: of two shelves each has what was loaded into it alone, and an older one isn't told of a later Load.
func TestShelfNotKept(t *testing.T) {
	one, two := shelf.New(nil), with(a2)
	ark.Load(one, []byte(arkOf(a, b)))
	was := look(one)
	ark.Load(two, []byte(arkOf(a, b, c)))
	ark.Pack(two)
	if look(one) != was {
		t.Error("a Load into another shelf has changed this one")
	}
	wantArk(t, "two", two, sorted(a, b, c, a2)...)
	wantArk(t, "one", one, a, b)
}
