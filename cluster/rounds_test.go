package cluster_test

import (
	"slices"
	"testing"

	"pleach/api"
	"pleach/cluster"
)

// waits tells what waits at one: no step tells it, but the model, which was told the same.
func (w *watch) waits(who int) []api.Hash {
	w.t.Helper()
	l, e := w.w.open[who].Waiting()
	if e != api.OK {
		w.fails("Waiting: %d", e)
	}
	return l
}

// union tells U of W4: the least set that has all that either of two holds, and each transaction waiting at one of them whose parents are all in it and whose clock fits theirs; how many of it not both hold; and how many transactions the longest way of parents has that goes through such of it alone.
func (w *watch) union(a, b int) (all []string, lacked, long int) {
	in, deep, clock := map[api.Hash]bool{}, map[api.Hash]int{}, map[api.Hash]int{}
	waiting := append(w.waits(a), w.waits(b)...)
	pool := []string{}
	for _, x := range w.all {
		pool = append(pool, x)
	}
	for _, x := range sorted(pool...) { // parents ahead
		h, n, whole, fits := hashOf(x), nodeOf(x), true, 1
		for _, p := range n.Parents {
			whole = whole && in[p]
			fits = max(fits, clock[p]+1)
		}
		at, bt := slices.Contains(w.of[a].held, h), slices.Contains(w.of[b].held, h)
		if !whole || n.Clock != fits || !at && !bt && !slices.Contains(waiting, h) {
			continue
		}
		all, in[h], clock[h] = append(all, x), true, n.Clock
		if at && bt {
			continue
		}
		lacked++
		deep[h] = 1
		for _, p := range n.Parents {
			if deep[p] > 0 {
				deep[h] = max(deep[h], deep[p]+1)
			}
		}
		long = max(long, deep[h])
	}
	return all, lacked, long
}

// rounds lets two do a round: each ticks for the other, and all that is under way between them is delivered, in some order of both links.
func (w *watch) round(m *maker, a, b int) {
	w.t.Helper()
	w.does(tick(a, b))
	w.does(tick(b, a))
	for left := 2; left > 0; {
		if m.r.IntN(2) == 0 {
			a, b = b, a
		}
		if w.does(deliver(a, b)).E != api.ErrAbsent {
			left = 2
			continue
		}
		if left--; left == 1 && w.does(deliver(b, a)).E != api.ErrAbsent {
			left = 2
		} else if left == 1 {
			left = 0
		}
	}
}

// P23.2: W4 behind random scripts with crashes and a bad network: two that do rounds hold the same behind no more than 2 L + 2 of them.
func TestRounds(t *testing.T) {
	r := chance()
	counts := map[string]int{}
	waited, lacked, longest := 0, 0, 0
	for range 45 {
		n := 2 + r.IntN(3)
		m := newMaker(r, n)
		w := newWatch(t, n, roomy, counts, nobodys()...)
		for len(w.log) < 70 {
			for _, s := range m.next() {
				m.hears(w.does(s))
			}
		}
		a, b := m.two()
		for range 6 { // much that one has, and of which the other learns the newest alone
			for _, s := range m.hints() {
				m.hears(w.does(s))
			}
		}
		for _, who := range []int{a, b} {
			w.does(fuse(who, -1))
			if x := w.of[who]; !x.open || x.dead || r.IntN(4) == 0 { // what is open and has its power may have others that wait
				w.does(crash(who, r.IntN(300)))
				w.does(of(api.StepOpen, who))
			}
		}
		all, lack, long := w.union(a, b)
		if lack+len(w.waits(a))+len(w.waits(b)) > api.MaxWaiting {
			t.Fatalf("%d, %d and %d are too many", lack, len(w.waits(a)), len(w.waits(b)))
		}
		waited, lacked, longest = waited+len(w.waits(a))+len(w.waits(b)), lacked+lack, max(longest, long)
		for range 2*long + 2 {
			w.round(m, a, b)
		}
		for _, who := range []int{a, b} {
			if want := hashesOf(sorted(all...)); !slices.Equal(w.of[who].held, want) {
				w.fails("behind %d rounds %d holds %x; want %x", 2*long+2, who, w.of[who].held, want)
			}
		}
		if w.of[a].text != w.of[b].text {
			w.fails("%d shows %s; %d shows %s", a, w.of[a].text, b, w.of[b].text)
		}
	}
	if waited < 10 || lacked < 200 || longest < 8 {
		t.Errorf("%d waited, %d weren't held by both, the longest way had %d", waited, lacked, longest)
	}
}

// P23.2: W3 and W4 of all that there may be: behind rounds two by two all hold the same, and show the same, the ark too.
func TestAllAlike(t *testing.T) {
	c := made(t, 8)
	for who := 1; who <= 8; who++ {
		for i := range 3 {
			do(t, c, commits(who, incr("n", int64(who)), put("k", string(rune('a'+who))), insert("l", string(rune('0'+i))))...)
		}
	}
	meet := func(a, b int) {
		for range 8 { // as 2 L + 2 has it: the longest way through what one lacks has 3
			do(t, c, tick(a, b), tick(b, a))
			for c.Do(deliver(a, b)).E == api.OK || c.Do(deliver(b, a)).E == api.OK {
			}
		}
	}
	for who := 1; who < 8; who++ {
		meet(who, who+1)
	}
	for who := 7; who > 0; who-- {
		meet(who, who+1)
	}
	for _, s := range []api.Step{of(api.StepHeld, 1), of(api.StepHeads, 1), of(api.StepCells, 1), of(api.StepRoot, 1), export(1, 0), under(api.StepRegister, 1, "k"), under(api.StepItems, 1, "l"), under(api.StepCount, 1, "n")} {
		want := do(t, c, s)
		for s.Who = 2; s.Who <= 8; s.Who++ {
			wants(t, c, s, want)
		}
	}
	wants(t, c, under(api.StepCount, 5, "n"), number(3*36))
	if l := do(t, c, of(api.StepHeld, 8)).List; len(l) != 24 {
		t.Errorf("held are %d", len(l))
	}
}

// P23.1: what a cluster answers hangs on its own steps alone, whatever steps of another one come between.
func TestSameAgain(t *testing.T) {
	r := chance()
	for range 20 {
		g, answers := game(t, r, 120)
		other := made(t, g.N, g.Room) // of which the steps come between
		c, e := cluster.New(g.N, g.Room, g.Key)
		if e != api.OK {
			t.Fatalf("New: %d", e)
		}
		m := newMaker(r, g.N)
		for i, s := range g.Script {
			for _, x := range m.next() {
				m.hears(other.Do(x))
			}
			if a := c.Do(s); tell(a) != tell(answers[i]) {
				t.Fatalf("step %d, %s: %s; want %s", i, show(s), tell(a), tell(answers[i]))
			}
		}
	}
}
