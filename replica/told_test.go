package replica_test

import (
	"slices"

	"pleach/api"
	"pleach/ark"
	"pleach/blocks"
	"pleach/disk"
	"pleach/msg"
	"pleach/node"
	"pleach/past"
	"pleach/roots"
	"pleach/seal"
	"pleach/session"
	"pleach/shelf"
	"pleach/state"
)

// What the chapter's words say of a replica, told in another way than the package does: a model that has its blocks as texts in two lists, takes them by its own rules, tells a store of its own what is to be kept, and makes shelf, history and state anew out of its lists whenever it is asked.

// teller is what is told and asked: a replica, or the model of one.
type teller interface {
	Begin() api.Errno
	Do(o api.Op) api.Errno
	Commit() (api.Hash, api.Errno)
	Abort() api.Errno
	Merge() (api.Hash, api.Errno)
	Register(key string) ([]string, api.Errno)
	Members(key string) ([]string, api.Errno)
	Count(key string) (int64, api.Errno)
	Items(key string) ([]api.Item, api.Errno)
	Cells() ([]api.Cell, api.Errno)
	Root() (api.Hash, api.Errno)
	Find(kind int, key string) (api.Witness, api.Errno)
	At(heads []api.Hash, kind int, key string) (api.Cell, api.Errno)
	Heads() ([]api.Hash, api.Errno)
	Held() ([]api.Hash, api.Errno)
	Waiting() ([]api.Hash, api.Errno)
	Block(h api.Hash) ([]byte, api.Errno)
	Tick(to int) ([]byte, api.Errno)
	Deliver(b []byte) ([][]byte, api.Taken, api.Errno)
	Export() ([]byte, api.Errno)
	Import(b []byte) (api.Taken, api.Errno)
}

// model is a replica.
type model struct {
	author int
	store  *blocks.Store
	held   map[api.Hash]api.Node
	order  []string // of those that are held, as they were taken
	wait   []string // the oldest first
	isOpen bool
	ops    []api.Op
	ticks  uint64
	dead   bool
	short  bool // something was refused, or lost, for want of room
}

// modelOpen tells the model of a replica on a disk, with key7; nil, if it is refused.
func modelOpen(d *disk.Disk, author int) (*model, api.Errno) {
	store, e := blocks.Open(d)
	if e != api.OK {
		return nil, e
	}
	m := &model{author: author, store: store, held: map[api.Hash]api.Node{}}
	for h, b := range store.All() {
		n, err := node.Decode(b)
		if err != nil || !m.hasAll(n.Parents) || m.misfits(n) || len(m.order) == 4096 {
			if e := store.Cut(len(m.order)); e != api.OK {
				return nil, e
			}
			break
		}
		m.held[h], m.order = n, append(m.order, string(b))
	}
	return m, api.OK
}

// hasAll tells whether all of some hashes are held.
func (m *model) hasAll(l []api.Hash) bool {
	return !slices.ContainsFunc(l, func(h api.Hash) bool { _, is := m.held[h]; return !is })
}

// misfits tells whether the clock of a transaction, all of whose parents are held, is another one than these ask for.
func (m *model) misfits(n api.Node) bool { return n.Clock != m.clockOver(n.Parents) }

// clockOver tells the clock of a transaction that has these parents.
func (m *model) clockOver(parents []api.Hash) int {
	clock := 1
	for _, h := range parents {
		clock = max(clock, m.held[h].Clock+1)
	}
	return clock
}

// hold holds a block all of whose parents are held, or tells why not.
func (m *model) hold(b string) api.Errno {
	n := nodeOf(b)
	if m.misfits(n) {
		return api.ErrClock
	}
	if len(m.order) == 4096 {
		return api.ErrMany
	}
	e := m.store.Keep([]byte(b))
	m.dead, m.short = m.dead || e == api.ErrPower, m.short || e == api.ErrRoom
	if e == api.OK {
		m.held[hashOf(b)], m.order = n, append(m.order, b)
	}
	return e
}

// take takes a block.
func (m *model) take(b string) (t api.Taken, e api.Errno) {
	x, err := node.Entry([]byte(b))
	if err != nil {
		return t, err.(*api.Bad).Why
	}
	if _, is := m.held[x.ID]; is || slices.Contains(m.wait, b) {
		return t, api.OK
	}
	if !m.hasAll(x.Node.Parents) {
		m.wait = append(slices.Clone(m.wait), b)
		if len(m.wait) > 64 {
			t.Lost = append(t.Lost, hashOf(m.wait[0]))
			m.wait = m.wait[1:]
		}
		return t, api.OK
	}
	if e := m.hold(b); e != api.OK {
		return t, e
	}
	t.IDs = append(t.IDs, x.ID)
	for {
		i := slices.IndexFunc(m.wait, func(x string) bool { return m.hasAll(nodeOf(x).Parents) })
		if i < 0 {
			return t, api.OK
		}
		next := m.wait[i]
		e := m.hold(next)
		if m.dead {
			return api.Taken{}, api.ErrPower
		}
		m.wait = slices.Concat(m.wait[:i], m.wait[i+1:])
		if e == api.OK {
			t.IDs = append(t.IDs, hashOf(next))
		} else {
			t.Lost = append(t.Lost, hashOf(next))
		}
	}
}

// sync makes all safe, and tells whether the power has gone.
func (m *model) sync() bool {
	m.dead = m.dead || m.store.Sync() == api.ErrPower
	return m.dead
}

// heads tells those that no held one names.
func (m *model) heads() []api.Hash { return headsOf(m.order...) }

// shelf tells a shelf that has the same.
func (m *model) shelf() *shelf.Shelf {
	s := shelf.New(nil)
	for _, b := range slices.Concat(m.order, m.wait) {
		s.Take([]byte(b))
	}
	return s
}

// past tells the history, handed in as it was taken.
func (m *model) past() *past.Past {
	l := []api.Entry{}
	for _, b := range m.order {
		l = append(l, api.Entry{ID: hashOf(b), Node: nodeOf(b)})
	}
	p, e, _ := past.Of(l)
	if e != api.OK {
		panic("the model isn't closed")
	}
	return p
}

func (m *model) state() *state.State { return state.Of(m.past()) }

func (m *model) Begin() api.Errno {
	if m.dead {
		return api.ErrPower
	}
	if m.isOpen {
		return api.ErrState
	}
	m.isOpen, m.ops = true, nil
	return api.OK
}

func (m *model) Do(o api.Op) api.Errno {
	if m.dead {
		return api.ErrPower
	}
	if !m.isOpen {
		return api.ErrState
	}
	if len(m.ops) == 1024 {
		return api.ErrMany
	}
	l := append(slices.Clone(m.ops), o)
	if e := node.Check(api.Node{Author: 1, Clock: 1, Ops: l}); e != api.OK {
		return e
	}
	m.ops = l
	return api.OK
}

// weave takes a transaction over parents.
func (m *model) weave(parents []api.Hash, l []api.Op) (api.Hash, api.Errno) {
	if len(m.order) == 4096 {
		return api.Hash{}, api.ErrMany
	}
	n := api.Node{Author: m.author, Clock: m.clockOver(parents), Parents: parents, Ops: l}
	if node.Size(n) > 1048576 {
		return api.Hash{}, api.ErrBytes
	}
	b := blockOf(n)
	if _, e := m.take(b); e != api.OK {
		return api.Hash{}, e
	}
	if m.sync() {
		return api.Hash{}, api.ErrPower
	}
	m.isOpen = false
	return hashOf(b), api.OK
}

func (m *model) Commit() (api.Hash, api.Errno) {
	switch {
	case m.dead:
		return api.Hash{}, api.ErrPower
	case !m.isOpen:
		return api.Hash{}, api.ErrState
	case len(m.heads()) > 64:
		return api.Hash{}, api.ErrHeads
	}
	return m.weave(m.heads(), m.ops)
}

func (m *model) Abort() api.Errno {
	if m.dead {
		return api.ErrPower
	}
	if !m.isOpen {
		return api.ErrState
	}
	m.isOpen = false
	return api.OK
}

func (m *model) Merge() (api.Hash, api.Errno) {
	switch {
	case m.dead:
		return api.Hash{}, api.ErrPower
	case m.isOpen:
		return api.Hash{}, api.ErrState
	case len(m.heads()) < 2:
		return api.Hash{}, api.ErrHeads
	}
	parents := m.heads()
	if len(parents) > 64 {
		parents = parents[:64]
	}
	return m.weave(parents, nil)
}

// unless tells what there is, or ErrPower alone, if the model is dead.
func unless[T any](m *model, there func() T) (T, api.Errno) {
	if m.dead {
		var none T
		return none, api.ErrPower
	}
	return there(), api.OK
}

func (m *model) Register(key string) ([]string, api.Errno) {
	return unless(m, func() []string { return m.state().Register(key) })
}

func (m *model) Members(key string) ([]string, api.Errno) {
	return unless(m, func() []string { return m.state().Members(key) })
}

func (m *model) Count(key string) (int64, api.Errno) {
	return unless(m, func() int64 { return m.state().Count(key) })
}

func (m *model) Items(key string) ([]api.Item, api.Errno) {
	return unless(m, func() []api.Item { return m.state().Items(key) })
}

func (m *model) Cells() ([]api.Cell, api.Errno) {
	return unless(m, func() []api.Cell { return m.state().Cells() })
}

func (m *model) Root() (api.Hash, api.Errno) {
	if m.dead {
		return api.Hash{}, api.ErrPower
	}
	return roots.Root(m.state().Cells())
}

func (m *model) Find(kind int, key string) (api.Witness, api.Errno) {
	if m.dead {
		return api.Witness{}, api.ErrPower
	}
	return roots.Find(m.state().Cells(), kind, key)
}

func (m *model) At(heads []api.Hash, kind int, key string) (api.Cell, api.Errno) {
	switch {
	case m.dead:
		return api.Cell{}, api.ErrPower
	case kind != 1 && kind != 2 && kind != 3 && kind != 4:
		return api.Cell{}, api.ErrKind
	case !m.hasAll(heads):
		return api.Cell{}, api.ErrAbsent
	}
	p, _ := m.past().At(heads)
	c, _ := state.Of(p).Cell(kind, key)
	return c, api.OK
}

func (m *model) Heads() ([]api.Hash, api.Errno) { return unless(m, m.heads) }

func (m *model) Held() ([]api.Hash, api.Errno) {
	return unless(m, func() []api.Hash { return hashesOf(sorted(m.order...)) })
}

func (m *model) Waiting() ([]api.Hash, api.Errno) {
	return unless(m, func() []api.Hash { return hashesOf(m.wait) })
}

func (m *model) Block(h api.Hash) ([]byte, api.Errno) {
	if m.dead {
		return nil, api.ErrPower
	}
	if n, is := m.held[h]; is {
		return []byte(blockOf(n)), api.OK
	}
	return nil, api.ErrAbsent
}

func (m *model) Tick(to int) ([]byte, api.Errno) {
	if m.dead {
		return nil, api.ErrPower
	}
	if to < 1 || to > 8 || to == m.author {
		return nil, api.ErrArg
	}
	m.ticks++
	return letter(m.author, to, session.Hello(m.shelf(), m.ticks)), api.OK
}

func (m *model) Deliver(b []byte) (out [][]byte, t api.Taken, e api.Errno) {
	if m.dead {
		return nil, t, api.ErrPower
	}
	x, err := seal.Open(key7(), b)
	if err != nil {
		return nil, t, err.(*api.Bad).Why
	}
	if x.To != m.author || x.From == m.author {
		return nil, t, api.ErrArg
	}
	said, err := msg.Decode(x.Body)
	if err != nil {
		return nil, t, err.(*api.Bad).Why
	}
	for _, b := range said.Blocks {
		one, e := m.take(string(b))
		if e == api.ErrPower {
			return nil, api.Taken{}, e
		}
		t.IDs, t.Lost = append(t.IDs, one.IDs...), append(t.Lost, one.Lost...)
	}
	if len(t.IDs) > 0 && m.sync() {
		return nil, api.Taken{}, api.ErrPower
	}
	if said.Kind != api.MsgBlocks {
		l, _, _ := session.Answer(m.shelf(), said)
		for _, y := range l {
			out = append(out, letter(m.author, x.From, y))
		}
	}
	return out, t, api.OK
}

func (m *model) Export() ([]byte, api.Errno) {
	return unless(m, func() []byte { return ark.Pack(m.shelf()) })
}

func (m *model) Import(b []byte) (t api.Taken, e api.Errno) {
	if m.dead {
		return t, api.ErrPower
	}
	l, err := ark.Unpack(b)
	if err != nil {
		return t, err.(*api.Bad).Why
	}
	for _, b := range l {
		var one api.Taken
		if one, e = m.take(string(b)); e != api.OK {
			break
		}
		t.IDs, t.Lost = append(t.IDs, one.IDs...), append(t.Lost, one.Lost...)
	}
	if m.dead || len(t.IDs) > 0 && m.sync() {
		return api.Taken{}, api.ErrPower
	}
	return t, e
}
