package live

import (
	"slices"

	"pleach/api"
	"pleach/pack"
)

// share is what the entry of a number has counted behind its own last zero.
type share struct {
	by int
	n  int64
}

// counter is the shares that no zero has seen, and what they come to.
type counter struct {
	shares []share
	n      int64
}

// take does operations.
func (c *counter) take(g *graph, l []deed) bool {
	was, own, zeroed := c.n, int64(0), false
	for _, d := range l {
		if d.Kind == api.OpZero {
			own, zeroed = 0, true
		} else {
			own += d.N // goes round at 2^64, as it should
		}
	}
	if zeroed {
		c.zero(g)
	}
	if own != 0 {
		c.shares = append(c.shares, share{by: g.newest(), n: own})
		c.n += own
	}
	return c.n != was
}

// zero takes away what the newest entry has seen.
func (c *counter) zero(g *graph) {
	c.shares = slices.DeleteFunc(c.shares, func(s share) bool { return g.knows(s.by) })
	c.n = 0
	for _, s := range c.shares {
		c.n += s.n
	}
}

func (c *counter) stands() bool { return c.n != 0 }

func (c *counter) empty() bool { return len(c.shares) == 0 }

func (c *counter) lay(o *pack.Out) { o.Signed(c.n) }

func (c *counter) copy() part { return &counter{shares: slices.Clone(c.shares), n: c.n} }
