package cluster_test

import (
	"fmt"
	"slices"
	"testing"

	"pleach/api"
	"pleach/cluster"
)

// fill writes over a list, the room behind it too.
func fill[T any](l []T, x T) {
	l = l[:cap(l)]
	for i := range l {
		l[i] = x
	}
}

// fillAnswer writes over all lists of an answer.
func fillAnswer(a api.Answer) {
	for _, x := range a.Cells {
		fill(x.Value, 0xee)
	}
	fill(a.List, api.Hash{0xee})
	fill(a.Texts, "!")
	fill(a.Items, api.Item{Text: "!"})
	fill(a.Cells, api.Cell{Kind: 9})
	fill(a.Bytes, 0xee)
}

// spare tells a list with room behind it, in which something stands.
func spare[T any](l []T, x T) []T {
	out := append(append(make([]T, 0, len(l)+3), l...), x, x, x)
	return out[:len(l)]
}

// spareStep tells a step whose lists have room behind them.
func spareStep(s api.Step) api.Step {
	s.Heads, s.Keep, s.Bytes = spare(s.Heads, api.Hash{0xaa}), spare(s.Keep, 17), spare(s.Bytes, 0xaa)
	return s
}

// whole tells all of a step, the room behind its lists too.
func whole(s api.Step) string {
	return fmt.Sprintf("%v %x %d %x", s, s.Heads[:cap(s.Heads)], s.Keep[:cap(s.Keep)], s.Bytes[:cap(s.Bytes)])
}

// fillStep writes over all lists of a step.
func fillStep(s api.Step) {
	fill(s.Heads, api.Hash{0xee})
	fill(s.Keep, -1)
	fill(s.Bytes, 0xee)
}

// P23.4: steps stay as they were, and are not kept: who hands them in may write over them; and so may who is answered over the answers.
func TestOwnMemory(t *testing.T) {
	r := chance()
	for range 60 {
		g, answers := game(t, r, 150)
		key := spare(g.Key, 0xaa)
		c, e := cluster.New(g.N, g.Room, key)
		if e != api.OK || string(key[:35]) != string(g.Key)+"\xaa\xaa\xaa" {
			t.Fatalf("New: %d; the key became %x", e, key[:35])
		}
		fill(key, 0xee)
		for i, s := range g.Script {
			s = spareStep(s)
			before := whole(s)
			a := c.Do(s)
			if got := whole(s); got != before {
				t.Fatalf("step %d became %s; it was %s", i, got, before)
			}
			if tell(a) != tell(answers[i]) {
				t.Fatalf("step %d, %s, behind such as were written over: %s; want %s", i, show(s), tell(a), tell(answers[i]))
			}
			fillStep(s)
			fillAnswer(a)
		}
	}
}

// P23.4: of one answer no two lists share memory: of cells each has bytes of its own.
func TestCellsApart(t *testing.T) {
	c, l := shown(t)
	for _, s := range []api.Step{of(api.StepCells, 1), {Kind: api.StepAt, Who: 1, I: api.CellList, Key: "k", Heads: hashesOf(l)}} {
		a, want := do(t, c, s), do(t, c, s)
		for i := range a.Cells {
			fill(a.Cells[i].Value, 0xee)
			for j := i + 1; j < len(a.Cells); j++ {
				if !slices.Equal(a.Cells[j].Value, want.Cells[j].Value) {
					t.Fatalf("cell %d changed with cell %d", j, i)
				}
			}
		}
		wants(t, c, s, want)
	}
}

// P23.4: answers stay as they were, whatever steps come behind.
func TestAnswersStay(t *testing.T) {
	r := chance()
	for range 40 {
		g, _ := game(t, r, 150)
		c := made(t, g.N, g.Room)
		l, told := []api.Answer{}, []string{}
		for _, s := range g.Script {
			a := c.Do(s)
			l, told = append(l, a), append(told, tell(a))
		}
		for i, a := range l {
			if tell(a) != told[i] {
				t.Fatalf("answer %d became %s; it was %s", i, tell(a), told[i])
			}
		}
		for i, a := range l { // nor do they hang on one another
			fillAnswer(a)
			for j := i + 1; j < len(l); j++ {
				if j-i < 20 && tell(l[j]) != told[j] {
					t.Fatalf("answer %d changed with answer %d", j, i)
				}
			}
		}
	}
}

// P23.4: the ark that is told, the one that stands in the slot, and the bytes that are taken in are each their own.
func TestArksApart(t *testing.T) {
	c := made(t, 6)
	a := commit(t, c, 1, []api.Op{put("k", "v"), insert("l", "i")})
	for slot := range 4 {
		b := do(t, c, export(1, slot)).Bytes
		if slot == 3 {
			b = spare(b, 0xaa)
			wants(t, c, take(6, b), list(hashOf(a)))
		}
		fill(b, 0xee)
	}
	for slot := range 4 {
		wants(t, c, load(2+slot, slot), list(hashOf(a)))
	}
	for who := 1; who <= 6; who++ {
		wants(t, c, export(who, 7), api.Answer{Bytes: arkOf(a)})
	}
}

// P23.4: games stay as they were, and share nothing with what is answered, nor do the answers with one another.
func TestGamesStay(t *testing.T) {
	r := chance()
	games := []cluster.Game{}
	for range 4 {
		g, _ := game(t, r, 100)
		g.Key = spare(g.Key, 0xaa)
		for i := range g.Script {
			g.Script[i] = spareStep(g.Script[i])
		}
		g.Script = spare(g.Script, api.Step{Kind: api.StepHeld, Who: 1})
		games = append(games, g, g, g)
	}
	look := func() (l []string) {
		for _, g := range games {
			l = append(l, fmt.Sprintf("%d %d %x", g.N, g.Room, g.Key[:cap(g.Key)]))
			for _, s := range g.Script[:len(g.Script)+3] {
				l = append(l, whole(s))
			}
		}
		return l
	}
	before := look()
	list := spare(games, cluster.Game{N: 99})
	answers, errors := cluster.Play(list)
	for _, g := range list[len(list) : len(list)+3] {
		if g.N != 99 {
			t.Errorf("behind the games stands %v", g)
		}
	}
	for i, g := range games {
		l, _ := cluster.Run(g)
		want := tellAll(l)
		if got := tellAll(answers[i]); !slices.Equal(got, want) {
			t.Fatalf("game %d: %s; want %s", i, got, want)
		}
		for _, a := range l {
			fillAnswer(a)
		}
		fill(l, api.Answer{N: 77})
		for _, a := range answers[i] {
			fillAnswer(a)
		}
		fill(answers[i], api.Answer{N: 77})
	}
	fill(answers, nil)
	fill(errors, 77)
	if !slices.Equal(look(), before) {
		t.Error("the games have changed")
	}
}
