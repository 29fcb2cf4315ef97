package past

import (
	"iter"
	"slices"

	"pleach/api"
	"pleach/sha"
)

// Heads tells the hashes of those that none has seen.
func (p *Past) Heads() []api.Hash { return p.tops(p.whole()) }

// At tells the history as it was at heads.
func (p *Past) At(heads []api.Hash) (*Past, api.Errno) {
	in, e := p.reach(heads)
	if e != api.OK {
		return nil, e
	}
	// The one order of a part that is closed is that of the whole, without the others.
	return lay(slices.Collect(p.among(in))), api.OK
}

// Common tells the last ones that two have in common.
func (p *Past) Common(a, b api.Hash) ([]api.Hash, api.Errno) {
	one, e := p.reach([]api.Hash{a})
	if e != api.OK {
		return nil, e
	}
	two, e := p.reach([]api.Hash{b})
	if e != api.OK {
		return nil, e
	}
	one.meet(two)
	return p.tops(one), api.OK
}

// Since tells what the one heads have seen and the others haven't.
func (p *Past) Since(old, now []api.Hash) ([]api.Hash, api.Errno) {
	known, e := p.reach(old)
	if e != api.OK {
		return nil, e
	}
	in, e := p.reach(now)
	if e != api.OK {
		return nil, e
	}
	in.drop(known)
	var l []api.Hash
	for x := range p.among(in) {
		l = append(l, x.ID)
	}
	return l, api.OK
}

// reach tells those that are heads, or that heads have seen.
func (p *Past) reach(heads []api.Hash) (set, api.Errno) {
	in := room(p.Len())
	for _, h := range heads {
		i := p.Number(h)
		if i < 0 {
			return nil, api.ErrAbsent
		}
		in.join(p.under[i])
	}
	return in, api.OK
}

// whole tells the numbers of all entries.
func (p *Past) whole() set {
	in := room(p.Len())
	for i := range p.list {
		in.add(i)
	}
	return in
}

// among gives the entries of a set, in the one order.
func (p *Past) among(in set) iter.Seq[api.Entry] {
	return func(yield func(api.Entry) bool) {
		for i, x := range p.All() {
			if in.has(i) && !yield(x) {
				return
			}
		}
	}
}

// tops tells the hashes of those of a set that no other one of it has seen, rising.
func (p *Past) tops(in set) []api.Hash {
	var l []api.Hash
	below := room(p.Len())
	for i, x := range slices.Backward(p.list) { // whoever has seen another one stands behind it, so comes first here
		if in.has(i) && !below.has(i) {
			l = append(l, x.ID)
			below.join(p.under[i])
		}
	}
	return sha.Sort(l)
}
