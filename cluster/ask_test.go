package cluster_test

import (
	"testing"

	"pleach/api"
	"pleach/cluster"
)

// asking tells whether steps of a kind change nothing.
func asking(kind int) bool {
	return kind >= api.StepRegister && kind <= api.StepHeld || kind == api.StepFiles
}

// P23.3: steps that ask, laid between, whomever they ask, and be they refused, leave all others' answers as they are.
func TestAskingChangesNothing(t *testing.T) {
	r := chance()
	asked, refused := map[int]int{}, 0
	for range 60 {
		g, answers := game(t, r, 120)
		c := made(t, g.N, g.Room)
		m := newMaker(r, g.N)
		for i, s := range g.Script {
			for range r.IntN(4) {
				ask := m.wild()
				if !asking(ask.Kind) {
					ask = m.asks(1 + r.IntN(g.N))
				}
				a := c.Do(ask)
				if asked[ask.Kind]++; a.E != api.OK {
					refused++
				}
			}
			a := c.Do(s)
			if tell(a) != tell(answers[i]) {
				t.Fatalf("step %d, %s, others laid ahead of it: %s; want %s", i, show(s), tell(a), tell(answers[i]))
			}
			m.hears(a)
		}
	}
	for _, kind := range kinds() {
		if asking(kind) && asked[kind] < 100 {
			t.Errorf("kind %d was asked %d times", kind, asked[kind])
		}
	}
	if refused < 100 {
		t.Errorf("%d were refused", refused)
	}
}

// P23.3: nor do they any act, at whatever moment: the power, which is to go at the next act, stays; asked again they answer the same.
func TestAskingDoesNoAct(t *testing.T) {
	r := chance()
	for range 20 {
		g, _ := game(t, r, 80)
		c := made(t, g.N, g.Room)
		m := newMaker(r, g.N)
		for _, s := range g.Script {
			m.hears(c.Do(s))
		}
		for who := 1; who <= g.N; who++ {
			before := c.Do(of(api.StepHeld, who))
			do(t, c, fuse(who, 0))
			for range 30 {
				s := m.asks(who)
				want := c.Do(s)
				wants(t, c, s, want)
			}
			wants(t, c, of(api.StepHeld, who), before)
		}
	}
}

// P23.3: steps that are left out of a script leave the other answers as they are.
func TestAskingLeftOut(t *testing.T) {
	r := chance()
	for range 40 {
		g, answers := game(t, r, 120)
		want := []string{}
		less := cluster.Game{N: g.N, Room: g.Room, Key: g.Key}
		for i, s := range g.Script {
			if !asking(s.Kind) {
				less.Script = append(less.Script, s)
				want = append(want, tell(answers[i]))
			}
		}
		for i, got := range run(t, less) {
			if got != want[i] {
				t.Fatalf("step %d, %s: %s; want %s", i, show(less.Script[i]), got, want[i])
			}
		}
	}
}
