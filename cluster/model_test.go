package cluster_test

import (
	"fmt"
	"strings"
	"testing"

	"pleach/api"
	"pleach/disk"
	"pleach/replica"
)

// model is a cluster told in another way: over replicas alone, with links of its own.
type model struct {
	n     int
	disks map[int]*disk.Disk
	hands map[int]*disk.Hand
	open  map[int]*replica.Replica
	links map[[2]int][]string
	slots map[int]string
}

// newModel tells the model of a new cluster.
func newModel(n, room int) *model {
	m := &model{n: n, disks: map[int]*disk.Disk{}, hands: map[int]*disk.Hand{}, open: map[int]*replica.Replica{}, links: map[[2]int][]string{}, slots: map[int]string{}}
	for who := 1; who <= n; who++ {
		m.disks[who], m.hands[who] = disk.New(room)
		m.open[who], _ = replica.Open(m.disks[who], who, key7())
	}
	return m
}

// do does a step.
func (m *model) do(s api.Step) api.Answer {
	is := func(who int) bool { return who > 0 && who <= m.n }
	if s.Kind < 1 || s.Kind > 27 {
		return errs(api.ErrKind)
	}
	if !is(s.Who) || isOnLink(s.Kind) && (!is(s.To) || s.Who == s.To) {
		return errs(api.ErrArg)
	}
	if m.open[s.Who] == nil && asksOpen(s.Kind) {
		return errs(api.ErrState)
	}
	switch {
	case s.Kind <= api.StepMerge:
		return m.transact(m.open[s.Who], s)
	case s.Kind <= api.StepHeld:
		return m.read(m.open[s.Who], s)
	case s.Kind <= api.StepDeliver:
		return m.talk(s)
	case s.Kind <= api.StepClip:
		return errs(m.befall(s))
	}
	return m.keep(s)
}

// transact does a step by which transactions are made.
func (m *model) transact(r *replica.Replica, s api.Step) (a api.Answer) {
	switch s.Kind {
	case api.StepBegin:
		a.E = r.Begin()
	case api.StepAbort:
		a.E = r.Abort()
	case api.StepCommit:
		a.Hash, a.E = r.Commit()
	case api.StepMerge:
		a.Hash, a.E = r.Merge()
	case api.StepDo:
		if s.J == 1 {
			l, e := r.Items(s.Op.Key)
			if e != api.OK {
				return errs(e)
			}
			names := []api.Ident{{}}
			for _, x := range l {
				names = append(names, x.ID)
			}
			if s.I < 0 || s.I >= len(names) {
				return errs(api.ErrRange)
			}
			s.Op.At = names[s.I]
		}
		a.E = r.Do(s.Op)
	}
	return a
}

// read does a step that reads.
func (m *model) read(r *replica.Replica, s api.Step) (a api.Answer) {
	switch s.Kind {
	case api.StepRegister:
		a.Texts, a.E = r.Register(s.Key)
	case api.StepMembers:
		a.Texts, a.E = r.Members(s.Key)
	case api.StepCount:
		a.N, a.E = r.Count(s.Key)
	case api.StepItems:
		a.Items, a.E = r.Items(s.Key)
	case api.StepCells:
		a.Cells, a.E = r.Cells()
	case api.StepRoot:
		a.Hash, a.E = r.Root()
	case api.StepHeads:
		a.List, a.E = r.Heads()
	case api.StepHeld:
		a.List, a.E = r.Held()
	case api.StepAt:
		x, e := r.At(s.Heads, s.I, s.Key)
		a.E = e
		if x.Kind > 0 {
			a.Cells = append(a.Cells, x)
		}
	}
	return a
}

// send lays a message on a link.
func (m *model) send(from, to int, b []byte) api.Errno {
	if len(m.links[[2]int{from, to}]) == 1024 {
		return api.ErrMany
	}
	m.links[[2]int{from, to}] = append(m.links[[2]int{from, to}], string(b))
	return api.OK
}

// talk does Tick or Deliver.
func (m *model) talk(s api.Step) api.Answer {
	if s.Kind == api.StepTick {
		b, e := m.open[s.Who].Tick(s.To)
		if e == api.OK {
			e = m.send(s.Who, s.To, b)
		}
		if e != api.OK {
			return errs(e)
		}
		return number(int64(len(b)))
	}
	way := [2]int{s.Who, s.To}
	l := m.links[way]
	if len(l) == 0 {
		return errs(api.ErrAbsent)
	}
	m.links[way] = l[1:]
	if m.open[s.To] == nil {
		return errs(api.ErrState)
	}
	out, taken, e := m.open[s.To].Deliver([]byte(l[0]))
	for _, b := range out {
		m.send(s.To, s.Who, b)
	}
	return api.Answer{E: e, N: int64(len(out)), List: taken.IDs}
}

// round counts a number round a length.
func round(i, n int) int {
	if i %= n; i < 0 {
		i += n
	}
	return i
}

// befall lets something befall a message.
func (m *model) befall(s api.Step) api.Errno {
	way := [2]int{s.Who, s.To}
	l := m.links[way]
	if s.I < 0 || s.I >= len(l) || s.Kind == api.StepSwap && (s.J < 0 || s.J >= len(l)) {
		return api.ErrRange
	}
	b := []byte(l[s.I])
	switch s.Kind {
	case api.StepDrop:
		m.links[way] = append(append([]string{}, l[:s.I]...), l[s.I+1:]...)
	case api.StepTwice:
		return m.send(s.Who, s.To, b)
	case api.StepSwap:
		l[s.I], l[s.J] = l[s.J], l[s.I]
	case api.StepFlip:
		if round(s.N, 256) == 0 || len(b) == 0 {
			return api.ErrArg
		}
		b[round(s.J, len(b))] ^= byte(round(s.N, 256))
		l[s.I] = string(b)
	case api.StepClip:
		if len(b) > 0 {
			l[s.I] = l[s.I][:round(s.N, len(b))]
		}
	}
	return api.OK
}

// keep does a step on a disk, or on a slot.
func (m *model) keep(s api.Step) (a api.Answer) {
	switch s.Kind {
	case api.StepFuse:
		m.hands[s.Who].Fuse(s.N)
	case api.StepCrash:
		m.hands[s.Who].Crash(s.Keep)
		delete(m.open, s.Who)
	case api.StepOpen:
		delete(m.open, s.Who)
		r, e := replica.Open(m.disks[s.Who], s.Who, key7())
		if e != api.OK {
			return errs(e)
		}
		m.open[s.Who] = r
		a.List, a.E = r.Held()
	case api.StepFiles:
		for _, f := range m.hands[s.Who].Files() {
			a.N += int64(len(f.Bytes))
		}
	case api.StepExport:
		if s.I < 0 || s.I > 7 {
			return errs(api.ErrRange)
		}
		if a.Bytes, a.E = m.open[s.Who].Export(); a.E == api.OK {
			m.slots[s.I] = string(a.Bytes)
		}
	case api.StepImport:
		b := s.Bytes
		if s.J != 1 {
			if s.I < 0 || s.I > 7 {
				return errs(api.ErrRange)
			}
			b = []byte(m.slots[s.I])
		}
		taken, e := m.open[s.Who].Import(b)
		a.List, a.E = taken.IDs, e
	}
	return a
}

// P23.1: over random scripts every step is answered as by the model.
func TestAsModel(t *testing.T) {
	r := chance()
	came := map[string]int{}
	for range 150 {
		n, room := 1+r.IntN(5), one(r, 200, 600, 100000)
		c, w := made(t, n, room), newModel(n, room)
		m := newMaker(r, n)
		log := []string{}
		for len(log) < 250 {
			for _, s := range m.next() {
				log = append(log, show(s))
				got, want := c.Do(s), w.do(s)
				if tell(got) != tell(want) {
					t.Fatalf("%s: %s; want %s", strings.Join(log, "\n"), tell(got), tell(want))
				}
				m.hears(got)
				came[fmt.Sprintf("%d %d", s.Kind, int(got.E))]++
				if got.E == api.ErrRoom && len(got.List) > 0 {
					came["beside ErrRoom"]++
				}
				if s.Kind == api.StepAt && len(got.Cells) > 0 {
					came["at a cell"]++
				}
			}
		}
	}
	wants := map[int]string{
		-1: "40", 0: "40", 28: "40",
		api.StepBegin: "0 9 7 1", api.StepDo: "0 9 7 1 2 40 41 42", api.StepCommit: "0 9 7 8 1", api.StepAbort: "0 9 7 1", api.StepMerge: "0 9 7 8 220 1",
		api.StepRegister: "0 9 7", api.StepMembers: "0 9 7", api.StepCount: "0 9 7", api.StepItems: "0 9 7", api.StepCells: "0 9 7",
		api.StepAt: "0 9 7 6 40", api.StepRoot: "0 9 7", api.StepHeads: "0 9 7", api.StepHeld: "0 9 7",
		api.StepTick: "0 9 7 1", api.StepDeliver: "0 9 7 1 6 20 30", api.StepDrop: "0 1 2", api.StepTwice: "0 1 2", api.StepSwap: "0 1 2", api.StepFlip: "0 1 2", api.StepClip: "0 1 2",
		api.StepFuse: "0 1", api.StepCrash: "0 1", api.StepOpen: "0 7 1", api.StepExport: "0 9 7 2 1", api.StepImport: "0 9 7 8 2 20 1", api.StepFiles: "0 1",
	}
	for kind, l := range wants {
		for _, e := range strings.Fields(l) {
			if came[fmt.Sprint(kind, " ", e)] == 0 {
				t.Errorf("kind %d was never answered %s", kind, e)
			}
		}
	}
	if came["beside ErrRoom"] == 0 || came["at a cell"] < 20 {
		t.Errorf("%d times something was taken ahead of ErrRoom, %d times At told a cell", came["beside ErrRoom"], came["at a cell"])
	}
}
