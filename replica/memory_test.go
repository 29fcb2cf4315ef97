package replica_test

import (
	"bytes"
	"fmt"
	"slices"
	"testing"

	"pleach/api"
	"pleach/replica"
)

// fill writes over a list, the room behind it too.
func fill[T any](l []T, x T) {
	l = l[:cap(l)]
	for i := range l {
		l[i] = x
	}
}

// busy tells a replica that holds much, in which others wait, and a transaction is open.
func busy(t *testing.T) *replica.Replica {
	t.Helper()
	a := child(8, []api.Op{put("k", "1"), add("k", "x"), insert("k", "p"), incr("k", 3), put("e", "2"), add("z", "y")})
	b := child(7, []api.Op{put("k", "2"), add("k", "y"), insert("k", "q")})
	r, _ := with(t, a, b)
	commit(t, r, add("k", "z"), insert("k", "r", api.Ident{Node: hashOf(a), Op: 3}))
	deliver(t, r, blocksTo(1, made("c", a), made("w", made("nobody's")), made("v", made("w", made("nobody's")), a)))
	begin(t, r, put("k", "open"))
	return r
}

// list is a list of an answer: what it has, lists in it left out, and what writes over it.
type list struct {
	text func() string
	fill func()
}

// listOf tells a list of an answer; of each of its things shown tells what is to be seen of it.
func listOf[T any](l []T, x T, shown func(T) string) list {
	text := func() string {
		out := ""
		for _, y := range l {
			out += shown(y) + "; "
		}
		return out
	}
	return list{text: text, fill: func() { fill(l, x) }}
}

// plain tells a list in whose things no lists are.
func plain[T any](l []T, x T) list { return listOf(l, x, func(y T) string { return tell(y) }) }

// lists tells an answer with its lists.
func lists[T any](l []T, x T) (any, []list) { return l, []list{plain(l, x)} }

// answers tells calls that answer lists, each with what it answers and all its lists.
func answers() map[string]func(r *replica.Replica) (any, []list) {
	texts := func(l []string, e api.Errno) (any, []list) { return lists(l, "!") }
	hashes := func(l []api.Hash, e api.Errno) (any, []list) { return lists(l, api.Hash{0xee}) }
	row := func(b []byte, e api.Errno) (any, []list) { return lists(b, 0xee) }
	return map[string]func(r *replica.Replica) (any, []list){
		"Register": func(r *replica.Replica) (any, []list) { return texts(r.Register("k")) },
		"Members":  func(r *replica.Replica) (any, []list) { return texts(r.Members("k")) },
		"Items": func(r *replica.Replica) (any, []list) {
			l, _ := r.Items("k")
			return lists(l, api.Item{Text: "!"})
		},
		"Cells":          func(r *replica.Replica) (any, []list) { return cells(r.Cells()) },
		"Find":           func(r *replica.Replica) (any, []list) { return witness(r.Find(api.CellSet, "k")) },
		"Find of nobody": func(r *replica.Replica) (any, []list) { return witness(r.Find(api.CellSet, "l")) },
		"At": func(r *replica.Replica) (any, []list) {
			heads, _ := r.Heads()
			c, _ := r.At(heads, api.CellList, "k")
			return c, []list{plain(c.Value, 0xee)}
		},
		"Heads":   func(r *replica.Replica) (any, []list) { return hashes(r.Heads()) },
		"Held":    func(r *replica.Replica) (any, []list) { return hashes(r.Held()) },
		"Waiting": func(r *replica.Replica) (any, []list) { return hashes(r.Waiting()) },
		"Block": func(r *replica.Replica) (any, []list) {
			held, _ := r.Held()
			return row(r.Block(held[0]))
		},
		"Export": func(r *replica.Replica) (any, []list) { return row(r.Export()) },
		"Deliver of a hello": func(r *replica.Replica) (any, []list) {
			return said(r.Deliver(letter(5, 1, helloMsg(nil, []string{made("n")}))))
		},
		"Deliver of blocks that are known": func(r *replica.Replica) (any, []list) {
			held, _ := r.Held()
			b, _ := r.Block(held[0])
			return said(r.Deliver(blocksTo(1, string(b))))
		},
	}
}

// cells tells cells with their lists.
func cells(l []api.Cell, e api.Errno) (any, []list) {
	out := []list{listOf(l, api.Cell{Kind: 9}, func(c api.Cell) string { return tell(c.Kind, c.Key) })}
	for _, c := range l {
		out = append(out, plain(c.Value, 0xee))
	}
	return l, out
}

// witness tells a witness with its lists.
func witness(w api.Witness, e api.Errno) (any, []list) {
	out := []list{listOf(w.Leaves, api.Leaf{Number: 99}, func(x api.Leaf) string { return tell(x.Number, x.Cell.Key) })}
	for _, x := range w.Leaves {
		out = append(out, plain(x.Cell.Value, 0xee), plain(x.Path, api.Hash{0xee}))
	}
	return w, out
}

// said tells what Deliver has answered, with its lists.
func said(rows [][]byte, taken api.Taken, e api.Errno) (any, []list) {
	out := []list{
		listOf(rows, []byte{0xee}, func(b []byte) string { return fmt.Sprintf("%p", &b[0]) }),
		plain(taken.IDs, api.Hash{0xee}), plain(taken.Lost, api.Hash{0xee}),
	}
	for _, b := range rows {
		out = append(out, plain(b, 0xee))
	}
	return []any{rows, taken}, out
}

// R3: what is answered is nobody's but its owner's: written over, the room behind it too, it changes neither the replica nor what was answered before, or is answered then.
func TestAnswersMemory(t *testing.T) {
	for what, ask := range answers() {
		r := busy(t)
		was := lookAll(r, "k", "e", "z")
		kept, _ := ask(r)
		want := tell(kept)
		again, l := ask(r)
		if tell(again) != want {
			t.Errorf("%s: answered otherwise: %s; want %s", what, tell(again), want)
		}
		for _, x := range slices.Backward(l) { // those that stand in others first
			x.fill()
		}
		then, _ := ask(r)
		if lookAll(r, "k", "e", "z") != was || tell(kept) != want || tell(then) != want {
			t.Errorf("%s: an answer shares memory", what)
		}
		must2(t, r.Commit)
		commit(t, r, put("k", "more"), add("k", "more"), insert("k", "more"))
		deliver(t, r, blocksTo(1, made("nobody's")))
		if tell(kept) != want {
			t.Errorf("%s: an old answer has changed with the replica", what)
		}
	}
}

// R3: no two lists of an answer share memory: writing over one, and the room behind it, changes no other one.
func TestListsMemory(t *testing.T) {
	for what, ask := range answers() {
		r := busy(t)
		_, l := ask(r)
		for i := range l {
			_, l := ask(r)
			was := []string{}
			for _, x := range l {
				was = append(was, x.text())
			}
			l[i].fill()
			for k, x := range l {
				if k != i && x.text() != was[k] {
					t.Errorf("%s: writing over list %d has changed list %d", what, i, k)
				}
			}
		}
	}
}

// R3: IDs and Lost of what was taken, and messages beside them, are new memory each.
func TestTakenMemory(t *testing.T) {
	a := made("a")
	b, c := made("b", a), misfit(1, made("c", a))
	for what, take := range map[string]func(r *replica.Replica) (api.Taken, api.Errno){
		"Deliver": func(r *replica.Replica) (api.Taken, api.Errno) {
			_, taken, e := r.Deliver(blocksTo(1, a, made("x")))
			return taken, e
		},
		"Import": func(r *replica.Replica) (api.Taken, api.Errno) { return r.Import(arkOf(sorted(a, made("x"))...)) },
	} {
		made := func() (*replica.Replica, api.Taken) {
			r, _ := with(t)
			deliver(t, r, blocksTo(1, c, b))
			taken, e := take(r)
			wantE(t, what, e, api.OK)
			if len(taken.IDs) != 3 || len(taken.Lost) != 1 {
				t.Fatalf("%s: %v", what, taken)
			}
			return r, taken
		}
		r, one := made()
		_, two := made()
		was, want := lookAll(r, "k"), tell(two)
		lost := tell(one.Lost)
		fill(one.IDs, api.Hash{0xee})
		if tell(one.Lost) != lost || tell(two) != want || lookAll(r, "k") != was {
			t.Errorf("%s: IDs share memory", what)
		}
		ids := tell(two.IDs)
		fill(two.Lost, api.Hash{0xee})
		if tell(two.IDs) != ids || lookAll(r, "k") != was {
			t.Errorf("%s: Lost shares memory", what)
		}
	}
}

// R3: what is handed in stays as it was, the room behind it too, and isn't kept: written over, it changes nothing.
func TestHandedIn(t *testing.T) {
	a := made("a")
	b := made("b", a)
	for what, row := range map[string][]byte{
		"blocks":            blocksTo(1, b, a, made("w", made("nobody's")), "\x00"),
		"a hello":           letter(5, 1, helloMsg(nil, []string{b, made("n")})),
		"a want":            letter(5, 1, wantMsg(a, b)),
		"an ark":            arkOf(a, b),
		"no message":        sealed(key7(), 8, 1, []byte{9, 9}),
		"meant for another": blocksTo(2, a),
		"nothing":           {},
		"no ark":            append(arkOf(a, b), 1),
	} {
		r, _ := with(t)
		whole := append(bytes.Clone(row), "behind it"...)
		kept := bytes.Clone(whole)
		r.Deliver(whole[:len(row)])
		r.Import(whole[:len(row)])
		if !bytes.Equal(whole, kept) {
			t.Errorf("%s: what was handed in has changed", what)
		}
		was := lookAll(r, "k")
		fill(whole, 0xee)
		if lookAll(r, "k") != was {
			t.Errorf("%s: what was handed in is kept", what)
		}
	}
}

// R3: heads that are asked for stay as they were, and aren't kept.
func TestHeadsHandedIn(t *testing.T) {
	a := made("a")
	b, c := made("b", a), made("c", a)
	r, _ := with(t, a, b, c)
	whole := append(hashesOf([]string{c, a, b, c}), api.Hash{7}, api.Hash{6})
	kept := slices.Clone(whole)
	one := must2(t, func() (api.Cell, api.Errno) { return r.At(whole[:4], api.CellRegister, "k") })
	r.At(whole, api.CellRegister, "k")
	r.At(whole, 9, "k")
	if !slices.Equal(whole, kept) {
		t.Error("heads that were handed in have changed")
	}
	want := tell(one)
	fill(whole, hashOf(a))
	if tell(one) != want {
		t.Error("an answer shares memory with what was handed in")
	}
	if two := must2(t, func() (api.Cell, api.Errno) { return r.At(kept[:4], api.CellRegister, "k") }); tell(two) != want {
		t.Errorf("another answer: %v; want %v", two, one)
	}
}

// R3: a message that Tick tells is its owner's.
func TestTickMemory(t *testing.T) {
	r, s := busy(t), busy(t)
	for range 3 {
		b := must2(t, func() ([]byte, api.Errno) { return r.Tick(2) })
		c := must2(t, func() ([]byte, api.Errno) { return s.Tick(2) })
		if !bytes.Equal(b, c) {
			t.Error("unlike ticks")
		}
		kept := bytes.Clone(c)
		fill(b, 0xee)
		if !bytes.Equal(c, kept) {
			t.Error("ticks share memory")
		}
	}
	wantHeld(t, "then", r, blocksOf(t, s)...)
}

// blocksOf tells the blocks that a replica holds.
func blocksOf(t *testing.T, x teller) []string {
	t.Helper()
	l := []string{}
	for _, h := range must2(t, x.Held) {
		l = append(l, string(must2(t, func() ([]byte, api.Errno) { return x.Block(h) })))
	}
	return l
}
