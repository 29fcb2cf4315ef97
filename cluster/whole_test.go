package cluster_test

import (
	"fmt"
	"slices"
	"strings"
	"testing"

	"pleach/api"
	"pleach/cluster"
	"pleach/past"
	"pleach/roots"
	"pleach/state"
)

// seen is what one has been seen to have, or what is known of it.
type seen struct {
	open, dead bool
	held       []api.Hash
	text       string     // all that it shows
	items      []api.Item // of the list "l"
	ops        []api.Op   // of the transaction that is open
	being      []api.Hash // what was being taken when the power went; nil: no more is told of it than that it is known
}

// watch watches a cluster: each step's answer, and what each replica shows behind it, are asked to be what the promises of the whole say.
type watch struct {
	t      *testing.T
	c      *cluster.Cluster
	w      *model // told the same, for what no step tells: what waits
	all    map[api.Hash]string
	of     []*seen
	shows  map[string]string     // by what is held: all that is shown
	ahead  map[[2]api.Ident]bool // of items: the first was shown ahead of the second
	counts map[string]int        // how often what came to pass
	log    []string
}

// newWatch tells the watch of a new cluster.
func newWatch(t *testing.T, n, room int, counts map[string]int, given ...string) *watch {
	w := &watch{t: t, c: made(t, n, room), w: newModel(n, room), all: map[api.Hash]string{}, of: []*seen{nil}, shows: map[string]string{}, ahead: map[[2]api.Ident]bool{}, counts: counts}
	for _, b := range given {
		w.all[hashOf(b)] = b
	}
	for range n {
		w.of = append(w.of, &seen{open: true})
	}
	for who := 1; who <= n; who++ {
		w.look(who)
	}
	return w
}

// fails tells what was done, and ends the test.
func (w *watch) fails(format string, l ...any) {
	w.t.Helper()
	w.t.Fatalf("%s: %s", strings.Join(w.log[max(0, len(w.log)-60):], "\n"), fmt.Sprintf(format, l...))
}

// asks does a step that asks, which may not be refused.
func (w *watch) asks(s api.Step) api.Answer {
	w.t.Helper()
	a := w.c.Do(s)
	if a.E != api.OK {
		w.fails("%s: %d", show(s), a.E)
	}
	return a
}

// blocks tells the blocks of hashes, all of which have to be known (W7).
func (w *watch) blocks(l []api.Hash) []string {
	w.t.Helper()
	out := []string{}
	for _, h := range l {
		b, is := w.all[h]
		if !is {
			w.fails("%x came from nowhere", h[:3])
		}
		out = append(out, b)
	}
	return out
}

// history tells the history of blocks, which are closed.
func (w *watch) history(l []string) *past.Past {
	w.t.Helper()
	entries := []api.Entry{}
	for _, b := range l {
		entries = append(entries, api.Entry{ID: hashOf(b), Node: nodeOf(b)})
	}
	p, e, at := past.Of(entries)
	if e != api.OK {
		w.fails("no history: %d at %d", e, at)
	}
	return p
}

// look looks at all that one shows, which has to be what its history shows (W2), what others showed that held the same (W3), with lists that stand still (W8).
func (w *watch) look(who int) {
	w.t.Helper()
	x := w.of[who]
	x.held = w.asks(of(api.StepHeld, who)).List
	l := w.blocks(x.held)
	if !slices.Equal(hashesOf(sorted(l...)), x.held) {
		w.fails("%d holds what isn't closed, or not in the one order", who)
	}
	heads := w.asks(of(api.StepHeads, who)).List
	if !slices.Equal(heads, headsOf(l...)) {
		w.fails("%d has the heads %x", who, heads)
	}
	p := w.history(l)
	s := state.Of(p)
	root, _ := roots.Root(s.Cells())
	got := []api.Answer{w.asks(of(api.StepCells, who)), w.asks(of(api.StepRoot, who)), w.asks(under(api.StepRegister, who, "k")), w.asks(under(api.StepMembers, who, "s")), w.asks(under(api.StepCount, who, "n")), w.asks(under(api.StepItems, who, "l"))}
	want := []api.Answer{{Cells: s.Cells()}, {Hash: root}, {Texts: s.Register("k")}, {Texts: s.Members("s")}, number(s.Count("n")), {Items: s.Items("l")}}
	if !slices.Equal(tellAll(got), tellAll(want)) {
		w.fails("%d shows %s; want %s", who, tellAll(got), tellAll(want))
	}
	x.text = fmt.Sprintf("%s %x", tellAll(got), heads)
	id := tell(list(x.held...))
	if before, is := w.shows[id]; is && before != x.text {
		w.fails("%d shows %s; who held the same has shown %s", who, x.text, before)
	} else if is {
		w.counts["the same held"]++
	}
	w.shows[id] = x.text
	x.items = s.Items("l")
	for i := range x.items {
		for j := range i {
			w.ahead[[2]api.Ident{x.items[j].ID, x.items[i].ID}] = true
			if w.ahead[[2]api.Ident{x.items[i].ID, x.items[j].ID}] {
				w.fails("two items of %d have changed their order", who)
			}
		}
	}
	if len(l) > 0 && len(w.log)%5 == 0 {
		w.then(who, p, x.held[len(w.log)%len(l)])
	}
}

// then asks for what one showed at a head that it has had.
func (w *watch) then(who int, p *past.Past, head api.Hash) {
	w.t.Helper()
	p, e := p.At([]api.Hash{head})
	if e != api.OK {
		w.fails("At: %d", e)
	}
	for kind, key := range map[int]string{api.CellRegister: "k", api.CellSet: "s", api.CellCounter: "n", api.CellList: "l"} {
		want := api.Answer{}
		if x, is := state.Of(p).Cell(kind, key); is {
			want.Cells = append(want.Cells, x)
		}
		if a := w.asks(api.Step{Kind: api.StepAt, Who: who, I: kind, Key: key, Heads: []api.Hash{head}}); tell(a) != tell(want) {
			w.fails("%d at a head: %s; want %s", who, tell(a), tell(want))
		}
	}
}

// told tells whom a step asks, for whom something may change by it; 0: none.
func (w *watch) told(s api.Step) int {
	n := len(w.of) - 1
	switch {
	case s.Who < 1 || s.Who > n || isOnLink(s.Kind) && (s.To < 1 || s.To > n || s.To == s.Who):
		return 0
	case s.Kind == api.StepDeliver:
		return s.To
	case isOnLink(s.Kind) && s.Kind != api.StepTick:
		return 0
	}
	return s.Who
}

// does does a step, and holds what comes of it against what may.
func (w *watch) does(s api.Step) api.Answer {
	w.t.Helper()
	w.log = append(w.log, show(s))
	who := w.told(s)
	var ahead seen
	if who > 0 {
		ahead = *w.of[who]
	}
	made := w.would(s, who)
	a := w.c.Do(s)
	if other := w.w.do(s); tell(a) != tell(other) {
		w.fails("%s; the model: %s", tell(a), tell(other))
	}
	if who == 0 {
		return a
	}
	x := w.of[who]
	switch {
	case s.Kind == api.StepCrash:
		x.open = false
	case s.Kind == api.StepOpen:
		w.opened(who, a)
	case !ahead.open || ahead.dead || asking(s.Kind):
	case a.E == api.ErrPower:
		x.dead, x.being = true, nil
		w.counts[fmt.Sprint("power gone at ", s.Kind)]++
		if made != "" {
			w.all[hashOf(made)] = made
			x.being = []api.Hash{hashOf(made)}
		}
	default:
		w.went(s, who, a, ahead, made)
	}
	return a
}

// would tells the block of the transaction that a Commit or Merge makes, if it isn't refused.
func (w *watch) would(s api.Step, who int) string {
	if who == 0 || !w.of[who].open || s.Kind != api.StepCommit && s.Kind != api.StepMerge {
		return ""
	}
	l := w.blocks(w.of[who].held)
	heads := []string{}
	for _, h := range headsOf(l...) {
		heads = append(heads, w.all[h])
	}
	ops := w.of[who].ops
	if s.Kind == api.StepMerge {
		ops = nil
	}
	return child(who, ops, heads...)
}

// opened holds an Open against W5.
func (w *watch) opened(who int, a api.Answer) {
	w.t.Helper()
	x := w.of[who]
	if x.open, x.ops = a.E == api.OK, nil; !x.open {
		return
	}
	before := x.held
	w.look(who)
	if !slices.Equal(x.held, a.List) {
		w.fails("%d is opened with %x, and holds %x", who, a.List, x.held)
	}
	more := x.held
	for _, h := range before {
		if !slices.Contains(x.held, h) {
			w.fails("%d has lost %x", who, h[:3])
		}
		more = slices.DeleteFunc(slices.Clone(more), func(m api.Hash) bool { return m == h })
	}
	if len(more) > 0 && (!x.dead || x.being != nil && !slices.Equal(more, x.being)) {
		w.fails("%d holds more than it held, or was taking: %x", who, more)
	}
	if x.dead && len(more) > 0 {
		w.counts["was being taken, and is held"]++
	} else if x.dead {
		w.counts["was being taken, and is lost"]++
	}
	x.dead, x.being = false, nil
}

// went holds a step of one that is open, and has its power, against what was ahead of it.
func (w *watch) went(s api.Step, who int, a api.Answer, ahead seen, made string) {
	w.t.Helper()
	x := w.of[who]
	if a.E == api.OK && (s.Kind == api.StepCommit || s.Kind == api.StepMerge) {
		if a.Hash != hashOf(made) {
			w.fails("the transaction isn't what was done, with all heads as parents")
		}
		w.all[a.Hash] = made
		a.List = []api.Hash{a.Hash}
		w.counts["made"]++
	}
	w.look(who)
	if taken := (s.Kind == api.StepDeliver || s.Kind == api.StepImport || a.Hash != api.Hash{} && s.Kind != api.StepRoot) && len(a.List) > 0; !taken && x.text != ahead.text {
		w.fails("answered %d, and %d shows %s; it showed %s", a.E, who, x.text, ahead.text)
	} else if taken && !slices.Equal(rising(append(slices.Clone(ahead.held), a.List...)), rising(x.held)) {
		w.fails("%d holds %x; it held %x, and was told %x", who, x.held, ahead.held, a.List)
	}
	if a.E != api.OK {
		w.counts[fmt.Sprintf("refused %d: %d", s.Kind, int(a.E))]++
		return
	}
	switch s.Kind {
	case api.StepBegin, api.StepAbort:
		x.ops = nil
	case api.StepDo:
		o := s.Op
		if s.J == 1 {
			o.At = api.Ident{}
			if s.I > 0 {
				l := state.Of(w.history(w.blocks(x.held))).Items(o.Key)
				o.At = l[s.I-1].ID
			}
		}
		x.ops = append(slices.Clone(x.ops), o)
	case api.StepCommit:
		w.inserted(x, a.Hash, ahead)
		x.ops = nil
	}
}

// inserted holds what a commit of one insert has made of the list against W8.
func (w *watch) inserted(x *seen, id api.Hash, ahead seen) {
	w.t.Helper()
	if len(ahead.ops) != 1 || ahead.ops[0].Kind != api.OpInsert || ahead.ops[0].Key != "l" {
		return
	}
	o := ahead.ops[0]
	i := 0
	if o.At != (api.Ident{}) {
		if i = 1 + slices.IndexFunc(ahead.items, func(y api.Item) bool { return y.ID == o.At }); i == 0 {
			return // behind one that isn't shown
		}
	}
	want := slices.Insert(slices.Clone(ahead.items), i, api.Item{ID: api.Ident{Node: id, Op: 1}, Text: o.Text})
	if !slices.Equal(x.items, want) {
		w.fails("the list is %v; want %v", x.items, want)
	}
	w.counts["inserted"]++
	if i > 0 {
		w.counts["inserted behind one"]++
	}
}

// P23.2: W2, W3, W5, W7 and W8 over random scripts with crashes and a bad network, on disks with much room and with little.
func TestWhole(t *testing.T) {
	r := chance()
	counts := map[string]int{}
	for range 90 {
		n := 1 + r.IntN(4)
		m := newMaker(r, n)
		w := newWatch(t, n, one(r, 150, 300, 600, 100000, 100000), counts, nobodys()...)
		for len(w.log) < 130 {
			for _, s := range m.next() {
				m.hears(w.does(s))
			}
		}
		for who := 1; who <= n; who++ { // opened again, or behind a power that goes while it is opened, it is the same
			w.does(crash(who, r.IntN(300)))
			if w.does(of(api.StepOpen, who)).E != api.OK {
				w.fails("%d isn't opened", who)
			}
			for range 2 {
				held := w.of[who].held
				w.does(fuse(who, 0))
				w.does(of(api.StepOpen, who))
				w.does(crash(who, r.IntN(300)))
				if l := w.does(of(api.StepOpen, who)).List; !slices.Equal(l, held) {
					w.fails("%d is opened with %x; want %x", who, l, held)
				}
			}
		}
	}
	for _, what := range []string{"made", "inserted", "inserted behind one", "the same held", "was being taken, and is held", "was being taken, and is lost",
		fmt.Sprint("power gone at ", api.StepCommit), fmt.Sprint("power gone at ", api.StepMerge), fmt.Sprint("power gone at ", api.StepDeliver), fmt.Sprint("power gone at ", api.StepImport),
		fmt.Sprintf("refused %d: %d", api.StepCommit, api.ErrRoom), fmt.Sprintf("refused %d: %d", api.StepImport, api.ErrRoom), fmt.Sprintf("refused %d: %d", api.StepDeliver, api.ErrSeal)} {
		if counts[what] < 3 {
			t.Errorf("%s: %d times", what, counts[what])
		}
	}
}
