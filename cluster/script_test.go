package cluster_test

import (
	"fmt"
	"math/rand/v2"
	"slices"
	"strings"
	"testing"

	"pleach/api"
	"pleach/cluster"
)

// maker makes scripts in which much happens, and hears what came of each step.
type maker struct {
	r    *rand.Rand
	n    int        // how many replicas
	seen []api.Hash // that were told
	arks [][]byte   // that were told
	long int        // how many bytes a long text has
}

// newMaker tells a maker that knows nothing yet but blocks of nobody's.
func newMaker(r *rand.Rand, n int) *maker {
	l := nobodys()
	return &maker{r: r, n: n, seen: []api.Hash{{}}, arks: [][]byte{nil, arkOf(), arkOf(l[0]), arkOf(l...)}, long: one(r, 20, 20, 300)}
}

// nobodys tells blocks that no replica here has made.
func nobodys() []string {
	a := child(8, []api.Op{put("k", "nobody's"), insert("l", "nobody's")})
	return []string{a, child(7, []api.Op{add("s", "nobody's")}, a)}
}

// hears hears an answer.
func (m *maker) hears(a api.Answer) {
	if a.Hash != (api.Hash{}) {
		a.List = append(slices.Clone(a.List), a.Hash)
	}
	for _, h := range a.List {
		if len(m.seen) < 50 {
			m.seen = append(m.seen, h)
		} else {
			m.seen[m.r.IntN(50)] = h
		}
	}
	if len(a.Bytes) > 0 && len(m.arks) < 40 {
		m.arks = append(m.arks, slices.Clone(a.Bytes))
	}
}

// who tells a replica.
func (m *maker) who() int { return 1 + m.r.IntN(m.n) }

// two tells two unlike replicas; where there is but one, the other one is none.
func (m *maker) two() (from, to int) {
	from = m.who()
	return from, (from+m.r.IntN(max(1, m.n-1)))%max(2, m.n) + 1
}

// op tells an operation, mostly one that may be.
func (m *maker) op() api.Op {
	r := m.r
	text := fmt.Sprint(r.IntN(9))
	if r.IntN(9) == 0 {
		text = strings.Repeat(text, m.long)
	}
	at := api.Ident{Node: one(r, m.seen...), Op: r.IntN(3)}
	return one(r, put("k", text), add("s", text), incr("n", int64(r.Uint64())), insert("l", text), insert("l", text), insert("l", text), insert("l", text, at),
		api.Op{Kind: api.OpClear, Key: "k"}, api.Op{Kind: api.OpRemove, Key: "s", Text: text}, api.Op{Kind: api.OpWipe, Key: "s"}, api.Op{Kind: api.OpZero, Key: "n"},
		api.Op{Kind: api.OpDelete, Key: "l", At: at}, api.Op{Kind: api.OpDelete, Key: "l"}, api.Op{Kind: r.IntN(12), Key: "k"}, api.Op{Kind: api.OpZero, Key: "n", Text: text}, api.Op{})
}

// transacts tells the steps of a transaction of a replica.
func (m *maker) transacts(who int) []api.Step {
	l := []api.Step{of(api.StepBegin, who)}
	if m.r.IntN(3) == 0 {
		return append(l, doesAt(who, m.r.IntN(4), insert("l", fmt.Sprint(m.r.IntN(99)))), of(api.StepCommit, who))
	}
	for range m.r.IntN(4) {
		if o := m.op(); m.r.IntN(2) == 0 && o.Kind >= api.OpInsert {
			l = append(l, doesAt(who, m.r.IntN(6)-1, o))
		} else {
			l = append(l, does(who, o))
		}
	}
	return append(l, of(one(m.r, api.StepCommit, api.StepCommit, api.StepCommit, api.StepCommit, api.StepAbort, api.StepHeads), who))
}

// talks tells the steps by which one tells another what it has, mostly.
func (m *maker) talks() []api.Step {
	from, to := m.two()
	l := []api.Step{tick(to, from), deliver(to, from)}
	for range m.r.IntN(4) {
		l = append(l, deliver(from, to))
	}
	return append(l, deliver(to, from), deliver(from, to))
}

// hints tells the steps by which one comes to have some more, and another learns of the newest of it alone.
func (m *maker) hints() []api.Step {
	from, to := m.two()
	l := []api.Step{}
	for range m.r.IntN(5) {
		l = append(l, commits(from, put("k", fmt.Sprint(m.r.Uint32())))...)
	}
	return append(l, tick(from, to), deliver(from, to), deliver(to, from), deliver(to, from), deliver(from, to))
}

// spoils tells the steps by which some messages go each way between two, and something befalls them.
func (m *maker) spoils() []api.Step {
	from, to := m.two()
	l := []api.Step{tick(to, from), deliver(to, from)}
	for range 1 + m.r.IntN(3) {
		l = append(l, tick(from, to), one(m.r, tick(to, from), tick(from, to), deliver(to, from)), m.befalls(from, to), m.befalls(to, from))
	}
	for range m.r.IntN(8) {
		l = append(l, one(m.r, deliver(from, to), deliver(to, from)))
	}
	return l
}

// befalls tells a step by which something befalls a message of a link, mostly.
func (m *maker) befalls(from, to int) api.Step {
	r := m.r
	kind := one(r, api.StepDrop, api.StepTwice, api.StepSwap, api.StepSwap, api.StepFlip, api.StepClip)
	s := link(kind, from, to, r.IntN(4), r.IntN(4), int(r.Uint64()))
	if kind == api.StepFlip {
		s.J = int(r.Uint64())
	}
	return s
}

// goes tells steps by which the power goes, and comes again.
func (m *maker) goes() []api.Step {
	who := m.who()
	from := 1 + who%m.n
	l := []api.Step{tick(who, from), deliver(who, from), fuse(who, m.r.IntN(4)-1)}
	for range m.r.IntN(4) {
		l = append(l, one(m.r, m.transacts(who), []api.Step{of(api.StepMerge, who)}, []api.Step{deliver(from, who)}, []api.Step{take(who, one(m.r, m.arks...))})...)
	}
	l = append(l, m.asks(who), m.asks(who))
	keep := []int{}
	for range m.r.IntN(3) {
		keep = append(keep, one(m.r, -1, 0, m.r.IntN(400), int(m.r.Uint64())))
	}
	l = append(l, crash(who, keep...))
	for range m.r.IntN(3) {
		l = append(l, one(m.r, fuse(who, 0), of(api.StepOpen, who)), of(api.StepFiles, who))
	}
	return append(l, of(api.StepOpen, who))
}

// asks tells a step that asks a replica.
func (m *maker) asks(who int) api.Step {
	kind := one(m.r, api.StepRegister, api.StepMembers, api.StepCount, api.StepItems, api.StepCells, api.StepAt, api.StepAt, api.StepRoot, api.StepHeads, api.StepHeld, api.StepFiles)
	s := under(kind, who, one(m.r, "k", "s", "n", "l", ""))
	if kind == api.StepAt {
		s.I = m.r.IntN(6)
		if m.r.IntN(4) > 0 {
			s.Key = []string{"", "k", "s", "n", "l", ""}[s.I]
		}
		for range m.r.IntN(3) {
			s.Heads = append(s.Heads, one(m.r, m.seen...))
		}
	}
	return s
}

// carries tells a step by which an ark goes from one to another.
func (m *maker) carries() api.Step {
	return one(m.r, export(m.who(), m.r.IntN(10)-1), export(m.who(), m.r.IntN(4)), load(m.who(), m.r.IntN(10)-1), load(m.who(), m.r.IntN(4)), take(m.who(), one(m.r, m.arks...)))
}

// wild tells a step of any kind, of any fields.
func (m *maker) wild() api.Step {
	r := m.r
	some := func() int { return one(r, 0, 1, 2, r.IntN(9)-1, int(r.Uint64())) }
	s := api.Step{Kind: r.IntN(30) - 1, Who: some(), To: some(), I: some(), J: some(), N: some(), Op: m.op(), Key: one(r, "k", "s", "n", "l", "")}
	s.Keep = []int{some(), some()}
	s.Heads = []api.Hash{one(r, m.seen...)}
	s.Bytes = one(r, m.arks...)
	return s
}

// next tells the next steps.
func (m *maker) next() []api.Step {
	switch m.r.IntN(13) {
	case 0, 1:
		return m.transacts(m.who())
	case 2, 3, 4, 5:
		return m.talks()
	case 6:
		return m.spoils()
	case 7:
		return m.goes()
	case 8:
		return []api.Step{of(one(m.r, api.StepMerge, api.StepMerge, api.StepOpen, api.StepAbort), m.who())}
	case 9:
		return []api.Step{m.carries(), m.carries()}
	case 10:
		return []api.Step{take(m.who(), one(m.r, m.arks...)), take(m.who(), m.arks[len(m.arks)-1])}
	case 11:
		return []api.Step{m.asks(m.who()), m.asks(m.who())}
	}
	return []api.Step{m.wild()}
}

// game tells a game with a script of some steps, and what they are answered by Do.
func game(t *testing.T, r *rand.Rand, size int) (g cluster.Game, answers []api.Answer) {
	t.Helper()
	g = cluster.Game{N: 1 + r.IntN(4), Room: one(r, 200, 600, 100000), Key: key7()}
	c := made(t, g.N, g.Room)
	m := newMaker(r, g.N)
	for len(g.Script) < size {
		for _, s := range m.next() {
			a := c.Do(s)
			m.hears(a)
			g.Script, answers = append(g.Script, s), append(answers, a)
		}
	}
	return g, answers
}
