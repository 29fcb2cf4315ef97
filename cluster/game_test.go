package cluster_test

import (
	"fmt"
	"runtime"
	"slices"
	"testing"
	"time"

	"pleach/api"
	"pleach/cluster"
)

// run runs a game that may not be refused, and tells the answers as texts.
func run(t *testing.T, g cluster.Game) []string {
	t.Helper()
	l, e := cluster.Run(g)
	if e != api.OK || len(l) != len(g.Script) {
		t.Fatalf("Run of %d steps: %d answers, %d", len(g.Script), len(l), e)
	}
	return tellAll(l)
}

// P23.1: Run answers what Do answers, step by step, and each time the same.
func TestRun(t *testing.T) {
	r := chance()
	for range 30 {
		g, answers := game(t, r, 150)
		for range 2 {
			if got := run(t, g); !slices.Equal(got, tellAll(answers)) {
				t.Fatalf("Run: %s; want %s", got, tellAll(answers))
			}
		}
	}
}

// P23.1: a script without steps, one of as many as may be, and one of one more; what New refuses comes first.
func TestRunOfMany(t *testing.T) {
	if api.MaxSteps != 4096 {
		t.Fatal("the limit is another one")
	}
	g := cluster.Game{N: 2, Room: 1 << 20, Key: key7()}
	run(t, g)
	for len(g.Script) < 4096 {
		g.Script = append(g.Script, tick(1, 2))
	}
	for i, s := range run(t, g) {
		want := errs(api.ErrMany)
		if i < 1024 {
			want = number(helloSize(uint64(i + 1)))
		}
		if s != tell(want) {
			t.Fatalf("step %d: %s; want %s", i, s, tell(want))
		}
	}
	for range 3 {
		g.Script = append(g.Script, tick(1, 2))
		if l, e := cluster.Run(g); l != nil || e != api.ErrMany {
			t.Errorf("Run of %d steps: %d answers, %d", len(g.Script), len(l), e)
		}
	}
	for _, bad := range []cluster.Game{{N: 0, Key: key7()}, {N: 9, Key: key7()}, {N: 2}, {N: 2, Key: key7()[1:]}} {
		for _, n := range []int{0, 4096, 4097} {
			bad.Script = g.Script[:n]
			if l, e := cluster.Run(bad); l != nil || e != api.ErrArg {
				t.Errorf("Run of %d replicas, %d steps: %d answers, %d", bad.N, n, len(l), e)
			}
		}
	}
}

// P23.1: steps that are refused end no script.
func TestRunGoesOn(t *testing.T) {
	g := cluster.Game{N: 1, Room: 0, Key: key7(), Script: append([]api.Step{{}, of(99, 1), of(api.StepHeld, 2)}, commits(1, put("k", "v"))...)}
	g.Script = append(g.Script, of(api.StepAbort, 1), of(api.StepHeld, 1))
	want := []api.Answer{errs(api.ErrKind), errs(api.ErrKind), errs(api.ErrArg), {}, {}, errs(api.ErrRoom), {}, {}}
	if got := run(t, g); !slices.Equal(got, tellAll(want)) {
		t.Errorf("%s; want %s", got, tellAll(want))
	}
}

// ended fails, if more goroutines than so many are still there after a while.
func ended(t *testing.T, before int) {
	t.Helper()
	for range 200 {
		if runtime.NumGoroutine() <= before {
			return
		}
		time.Sleep(time.Millisecond) // one that has told its end may not yet be gone
	}
	t.Fatalf("%d goroutines; there were %d", runtime.NumGoroutine(), before)
}

// plays fails, if Play tells otherwise of some games than Run of each.
func plays(t *testing.T, games []cluster.Game) {
	t.Helper()
	before := runtime.NumGoroutine()
	answers, errors := cluster.Play(games)
	ended(t, before)
	if len(answers) != len(games) || len(errors) != len(games) {
		t.Fatalf("Play of %d games: %d and %d", len(games), len(answers), len(errors))
	}
	for i, g := range games {
		l, e := cluster.Run(g)
		if errors[i] != e || !slices.Equal(tellAll(answers[i]), tellAll(l)) || e != api.OK && answers[i] != nil {
			t.Fatalf("Play of %d games: game %d: %s, %d; Run: %s, %d", len(games), i, tellAll(answers[i]), errors[i], tellAll(l), e)
		}
	}
}

// P23.1: Play tells what Run tells of each game: of none, of one, of many, such as are refused among them, and of one several times; its goroutines have ended when it answers.
func TestPlay(t *testing.T) {
	r := chance()
	plays(t, nil)
	plays(t, []cluster.Game{})
	plays(t, []cluster.Game{{}})
	pool := []cluster.Game{{}, {N: 1}, {N: 1, Key: key7()}, {N: 9, Key: key7()}, {N: 8, Key: key7(), Script: make([]api.Step, 4097)}, {N: 8, Key: key7(), Script: make([]api.Step, 4096)}}
	for range 12 {
		g, _ := game(t, r, 10+r.IntN(100))
		pool = append(pool, g)
	}
	for n := range 20 {
		games := []cluster.Game{}
		for range n {
			games = append(games, one(r, pool...))
		}
		plays(t, games)
	}
	plays(t, pool)
	plays(t, slices.Repeat(pool[6:7], 30))
	plays(t, append(slices.Repeat(pool[:1], 2000), pool[len(pool)-1]))
}

// P23.1: what Play tells hangs not on how many workers there are or how they run.
func TestPlayOfSome(t *testing.T) {
	r := chance()
	games := []cluster.Game{}
	for range 11 {
		g, _ := game(t, r, one(r, 5, 60, 200))
		games = append(games, g)
	}
	want := ""
	for _, procs := range []int{1, 2, 3, 8, 1} {
		old := runtime.GOMAXPROCS(procs)
		for range 3 {
			answers, errors := cluster.Play(games)
			got := ""
			for i := range answers {
				got += fmt.Sprint(tellAll(answers[i]), errors[i])
			}
			if want == "" {
				want = got
			}
			if got != want {
				t.Errorf("with %d processors Play tells otherwise", procs)
			}
		}
		runtime.GOMAXPROCS(old)
	}
}
