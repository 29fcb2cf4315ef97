package counts

import (
	"slices"

	"pleach/api"
	"pleach/past"
)

// share is what the transaction of a number has counted since it last set the counter to zero itself: whoever has seen some of it has seen all.
type share struct {
	by int
	n  int64
}

// counter is the shares of a key that no zero has seen so far, in the one order.
type counter []share

// read goes through those operations of a history that are wanted, and tells by keys what is left in the end. In the one order a zero comes behind all that it has seen, so each finds what it undoes.
func read(p *past.Past, wanted func(api.Op) bool) map[string]counter {
	all := map[string]counter{}
	for i, x := range p.All() {
		for _, o := range x.Node.Ops {
			if !wanted(o) {
				continue
			}
			switch o.Kind {
			case api.OpIncr:
				all[o.Key] = all[o.Key].grown(share{by: i, n: o.N})
			case api.OpZero:
				all[o.Key] = all[o.Key].left(p, i)
			}
		}
	}
	return all
}

// grown tells a counter with a share more, which joins what its transaction has there already.
func (c counter) grown(s share) counter {
	if end := len(c) - 1; end >= 0 && c[end].by == s.by {
		c[end].n += s.n
		return c
	}
	return append(c, s)
}

// left tells what a zero of a transaction leaves of a counter: what that transaction did so far it has seen, too.
func (c counter) left(p *past.Past, zero int) counter {
	return slices.DeleteFunc(c, func(s share) bool { return s.by == zero || p.Sees(s.by, zero) })
}

// sum tells what all shares come to; it goes round at 2^64, as int64 does.
func (c counter) sum() int64 {
	var n int64
	for _, s := range c {
		n += s.n
	}
	return n
}
