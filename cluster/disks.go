package cluster

import (
	"bytes"

	"pleach/api"
	"pleach/replica"
)

// fuse lets the power of a replica's disk go at a later act.
func fuse(c *Cluster, s api.Step) api.Answer {
	c.place(s.Who).hand.Fuse(s.N)
	return bare(api.OK)
}

// crash lets the power of a replica's disk go and come again.
func crash(c *Cluster, s api.Step) api.Answer {
	p := c.place(s.Who)
	p.replica = nil // what it knows isn't what the disk has now
	p.hand.Crash(s.Keep)
	return bare(api.OK)
}

// open opens a replica anew on its disk.
func open(c *Cluster, s api.Step) api.Answer {
	p := c.place(s.Who)
	p.replica = nil
	r, e := replica.Open(p.disk, s.Who, c.key)
	if e != api.OK {
		return bare(e)
	}
	p.replica = r
	l, e := r.Held()
	return api.Answer{E: e, List: l}
}

// files tells how many bytes a replica's disk has.
func files(c *Cluster, s api.Step) api.Answer {
	n := 0
	for _, f := range c.place(s.Who).hand.Files() {
		n += len(f.Bytes)
	}
	return api.Answer{N: int64(n)}
}

// isSlot tells whether there is a slot of that number.
func isSlot(i int) bool { return 0 <= i && i < slotCount }

// export lays a replica's ark into a slot.
func export(c *Cluster, s api.Step) api.Answer {
	if !isSlot(s.I) {
		return bare(api.ErrRange)
	}
	b, e := c.replica(s.Who).Export()
	if e != api.OK {
		return bare(e)
	}
	c.slots[s.I] = bytes.Clone(b) // what is answered is another's, who may write over it
	return api.Answer{Bytes: b}
}

// load lets a replica take in an ark, or what is said to be one.
func load(c *Cluster, s api.Step) api.Answer {
	b := s.Bytes
	if s.J != 1 {
		if !isSlot(s.I) {
			return bare(api.ErrRange)
		}
		b = c.slots[s.I]
	}
	t, e := c.replica(s.Who).Import(b)
	return api.Answer{E: e, List: t.IDs} // with an error, too: what was taken ahead of it stays
}
