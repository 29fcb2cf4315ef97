package replica

import (
	"pleach/api"
	"pleach/node"
	"pleach/op"
)

// Begin begins a transaction.
func (r *Replica) Begin() api.Errno {
	return r.whole(func() api.Errno {
		if r.open {
			return api.ErrState
		}
		r.open = true
		return api.OK
	})
}

// Do puts an operation behind those of the transaction.
func (r *Replica) Do(o api.Op) api.Errno {
	return r.whole(func() api.Errno {
		if !r.open {
			return api.ErrState
		}
		l := append(r.ops, o)
		if e, _ := op.Check(l); e != api.OK { // ErrMany ahead of all else, if these are more than MaxOps
			return e
		}
		r.ops = l
		return api.OK
	})
}

// Commit takes the transaction.
func (r *Replica) Commit() (api.Hash, api.Errno) {
	return told(r, func() (api.Hash, api.Errno) {
		heads := r.shelf.Heads()
		switch {
		case !r.open:
			return api.Hash{}, api.ErrState
		case len(heads) > api.MaxParents:
			return api.Hash{}, api.ErrHeads
		}
		h, e := r.weave(heads, r.ops)
		if e == api.OK {
			r.close()
		}
		return h, e
	})
}

// Abort lets the transaction go.
func (r *Replica) Abort() api.Errno {
	return r.whole(func() api.Errno {
		if !r.open {
			return api.ErrState
		}
		r.close()
		return api.OK
	})
}

// Merge takes a transaction without operations.
func (r *Replica) Merge() (api.Hash, api.Errno) {
	return told(r, func() (api.Hash, api.Errno) {
		heads := r.shelf.Heads()
		switch {
		case r.open:
			return api.Hash{}, api.ErrState
		case len(heads) < 2:
			return api.Hash{}, api.ErrHeads
		}
		return r.weave(heads[:min(len(heads), api.MaxParents)], nil)
	})
}

// close leaves no transaction open.
func (r *Replica) close() { r.open, r.ops = false, nil }

// weave takes a transaction of the replica's own with these parents, which are held, makes it safe, and tells its hash.
func (r *Replica) weave(parents []api.Hash, ops []api.Op) (api.Hash, api.Errno) {
	if r.shelf.Len() >= api.MaxNodes {
		return api.Hash{}, api.ErrMany
	}
	b, e := node.Encode(api.Node{Author: r.author, Clock: r.clock(parents), Parents: parents, Ops: ops})
	if e != api.OK { // ErrBytes: nothing else keeps it from being a block
		return api.Hash{}, e
	}
	if _, err := r.shelf.Take(b); err != nil {
		return api.Hash{}, alive(number(err))
	}
	r.sync()
	x, _ := node.Entry(b) // what Encode tells is a block
	return x.ID, api.OK
}

// clock tells the clock of a transaction that has these parents.
func (r *Replica) clock(parents []api.Hash) int {
	last := 0
	for _, h := range parents {
		x, _ := r.shelf.Entry(h)
		last = max(last, x.Node.Clock)
	}
	return last + 1
}
