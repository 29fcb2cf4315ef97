package mesh_test

import (
	"fmt"
	"math/rand/v2"
	"slices"
	"testing"

	"pleach/api"
	"pleach/mesh"
)

// both is a mesh, and the model of one.
type both struct {
	m    *mesh.Mesh
	w    *model
	r    *rand.Rand
	full bool           // whether links are kept nearly full
	came map[string]int // how often what was answered
}

// one tells one of some.
func one[T any](r *rand.Rand, l ...T) T { return l[r.IntN(len(l))] }

// replica tells the number of a replica; now and then of one that isn't there.
func (x *both) replica() int {
	if x.r.IntN(25) == 0 {
		return one(x.r, 0, -1, x.w.n+1, 9, least, most)
	}
	return 1 + x.r.IntN(min(x.w.n, 3))
}

// number tells the number of a message; now and then of one that isn't there.
func (x *both) number(from, to int) int {
	n := len(x.w.places(from, to))
	if n == 0 || x.r.IntN(15) == 0 {
		return one(x.r, n, n+1, -1, least, most)
	}
	return x.r.IntN(n)
}

// text tells a message.
func (x *both) text() string {
	b := make([]byte, one(x.r, 0, 1, 2, 3, x.r.IntN(40)))
	for i := range b {
		b[i] = byte(x.r.Uint32())
	}
	return string(b)
}

// step tells both the same, and fails, if they answer otherwise.
func (x *both) step(t *testing.T) {
	t.Helper()
	from, to := x.replica(), x.replica()
	i, j := x.number(from, to), x.number(from, to)
	place := one(x.r, x.r.IntN(50)-25, x.r.Int(), -x.r.Int(), least, most)
	what, got, want := "nothing", "", ""
	is := func(name string, e, e2 api.Errno) {
		what, got, want = name, fmt.Sprint(e), fmt.Sprint(e2)
	}
	kind := x.r.IntN(20)
	if x.full && kind < 3 {
		kind = 19
	}
	switch kind {
	case 0, 1, 2:
		b, err := x.m.Take(from, to)
		text, err2 := x.w.take(from, to)
		what, got, want = "Take", fmt.Sprintf("%q %v", b, err), fmt.Sprintf("%q %v", text, err2)
	case 3, 4:
		is("Drop", x.m.Drop(from, to, i), x.w.drop(from, to, i))
	case 5, 6, 7:
		is("Twice", x.m.Twice(from, to, i), x.w.twice(from, to, i))
	case 8, 9:
		is("Swap", x.m.Swap(from, to, i, j), x.w.swap(from, to, i, j))
	case 10, 11, 12:
		by := byte(x.r.IntN(12) * 23)
		is("Flip", x.m.Flip(from, to, i, place, by), x.w.flip(from, to, i, place, by))
	case 13, 14:
		is("Clip", x.m.Clip(from, to, i, place), x.w.clip(from, to, i, place))
	case 15:
		if x.r.IntN(10) == 0 {
			is("Clear", x.m.Clear(from, to), x.w.clear(from, to))
		}
	default:
		text := x.text()
		is("Send", x.m.Send(from, to, []byte(text)), x.w.send(from, to, text))
	}
	x.came[what+" "+answerKind(want)]++
	if got != want || x.m.Len(from, to) != len(x.w.places(from, to)) {
		t.Fatalf("%s from %d to %d, %d, %d, %d: %s, Len %d; want %s, %d", what, from, to, i, j, place, got, x.m.Len(from, to), want, len(x.w.places(from, to)))
	}
}

// answerKind tells an answer without the message in it.
func answerKind(s string) string {
	if len(s) > 6 && s[len(s)-5:] == "<nil>" {
		return "a message"
	}
	return s
}

// wantAll fails, if other messages are under way than those of the model; then none is.
func (x *both) wantAll(t *testing.T) {
	t.Helper()
	for _, p := range pairs(x.w.n) {
		wantLeft(t, "in the end", x.m, p[0], p[1], x.w.texts(p[0], p[1])...)
	}
}

// P21.1, P21.2: all calls answer as the words say, in every order.
func TestModel(t *testing.T) {
	came := map[string]int{}
	for seed := range uint64(600) {
		r := rand.New(rand.NewPCG(seed, 21))
		n := 1 + int(seed)%8
		x := &both{m: made(t, n), w: &model{n: n}, r: r, came: came}
		for range r.IntN(400) {
			x.step(t)
		}
		x.wantAll(t)
		if t.Failed() {
			t.Fatalf("seed %d", seed)
		}
	}
	for _, s := range []string{`Take "" pleach: nothing is under way`, `Take "" pleach: error 1`, "Take a message", "Send pleach: error 0", "Send pleach: error 1", "Drop pleach: error 0", "Drop pleach: error 1", "Drop pleach: error 2", "Twice pleach: error 0", "Twice pleach: error 2", "Swap pleach: error 0", "Swap pleach: error 2", "Flip pleach: error 0", "Flip pleach: error 1", "Flip pleach: error 2", "Clip pleach: error 0", "Clip pleach: error 2", "Clear pleach: error 0", "Clear pleach: error 1"} {
		if came[s] < 10 {
			t.Errorf("%s came %d times alone", s, came[s])
		}
	}
}

// P21.1: the same, of links that are full, or nearly so.
func TestModelFull(t *testing.T) {
	came := map[string]int{}
	for seed := range uint64(6) {
		x := &both{m: made(t, 2), w: &model{n: 2}, r: rand.New(rand.NewPCG(seed, 22)), full: true, came: came}
		for i := range 1015 {
			for _, p := range pairs(2) {
				text := fmt.Sprint(i)
				wantE(t, "Send", x.m.Send(p[0], p[1], []byte(text)), x.w.send(p[0], p[1], text))
			}
		}
		for range 300 {
			x.step(t)
		}
		x.wantAll(t)
		if t.Failed() {
			t.Fatalf("seed %d", seed)
		}
	}
	if came["Send pleach: error 3"] < 10 || came["Twice pleach: error 3"] < 10 {
		t.Errorf("full links came too seldom: %v", came)
	}
}

// R4: what a mesh answers hangs on what it was told alone: told the same once more, it answers the same.
func TestSameAgain(t *testing.T) {
	run := func() []string {
		x := &both{m: made(t, 5), w: &model{n: 5}, r: rand.New(rand.NewPCG(5, 5)), came: map[string]int{}}
		for range 500 {
			x.step(t)
		}
		out := []string{}
		for _, p := range pairs(5) {
			for x.m.Len(p[0], p[1]) > 0 {
				b, _ := x.m.Take(p[0], p[1])
				out = append(out, fmt.Sprint(p, b))
			}
		}
		return out
	}
	first := run()
	for range 5 {
		if !slices.Equal(run(), first) {
			t.Fatal("it answers otherwise")
		}
	}
}
