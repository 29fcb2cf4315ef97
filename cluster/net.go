package cluster

import (
	"errors"

	"pleach/api"
	"pleach/mesh"
)

// tick lets a replica say to another one what it says from time to time.
func tick(c *Cluster, s api.Step) api.Answer {
	b, e := c.replica(s.Who).Tick(s.To)
	if e != api.OK {
		return bare(e)
	}
	if e := c.net.Send(s.Who, s.To, b); e != api.OK {
		return bare(e)
	}
	return api.Answer{N: int64(len(b))}
}

// deliver hands over the first message of a link, and sends back what is said to it.
func deliver(c *Cluster, s api.Step) api.Answer {
	b, err := c.net.Take(s.Who, s.To)
	to := c.replica(s.To)
	switch {
	case errors.Is(err, mesh.ErrIdle):
		return bare(api.ErrAbsent)
	case to == nil:
		return bare(api.ErrState)
	}
	out, t, e := to.Deliver(b)
	for _, row := range out {
		c.net.Send(s.To, s.Who, row) // what the link has no room for is lost, as anything may be on the way
	}
	return api.Answer{E: e, N: int64(len(out)), List: t.IDs}
}

// drop loses a message.
func drop(c *Cluster, s api.Step) api.Answer { return bare(c.net.Drop(s.Who, s.To, s.I)) }

// twice doubles a message.
func twice(c *Cluster, s api.Step) api.Answer { return bare(c.net.Twice(s.Who, s.To, s.I)) }

// swap lets two messages change places.
func swap(c *Cluster, s api.Step) api.Answer { return bare(c.net.Swap(s.Who, s.To, s.I, s.J)) }

// flip spoils a byte of a message; what stands above the lowest byte of s.N counts for nothing.
func flip(c *Cluster, s api.Step) api.Answer {
	return bare(c.net.Flip(s.Who, s.To, s.I, s.J, byte(s.N)))
}

// clip cuts a message short.
func clip(c *Cluster, s api.Step) api.Answer { return bare(c.net.Clip(s.Who, s.To, s.I, s.N)) }
