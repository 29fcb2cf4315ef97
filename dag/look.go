package dag

import (
	"slices"

	"pleach/api"
	"pleach/sha"
)

// Has tells whether one is held.
func (d *Dag) Has(h api.Hash) bool {
	_, is := d.held[h]
	return is
}

// Waits tells whether one waits.
func (d *Dag) Waits(h api.Hash) bool {
	_, is := d.wait[h]
	return is
}

// Heads tells the held ones that no held one names, rising.
func (d *Dag) Heads() []api.Hash { return slices.Clone(d.heads) }

// Missing tells the parents of waiting ones that are neither held nor waiting, rising.
func (d *Dag) Missing() []api.Hash {
	var l []api.Hash
	for _, w := range d.queue {
		for _, h := range d.wait[w].Parents {
			if !d.Has(h) && !d.Waits(h) {
				l = append(l, h)
			}
		}
	}
	return sha.Sort(l)
}

// Waiting tells those that wait, the oldest first.
func (d *Dag) Waiting() []api.Hash { return slices.Clone(d.queue) }

// Order tells those that are held, in the one order.
func (d *Dag) Order() []api.Hash { return slices.Clone(d.order) }

// Len tells how many are held.
func (d *Dag) Len() int { return len(d.held) }

// Parents tells the parents of one that is held.
func (d *Dag) Parents(h api.Hash) ([]api.Hash, api.Errno) {
	v, is := d.held[h]
	if !is {
		return nil, api.ErrAbsent
	}
	return slices.Clone(v.Parents), api.OK
}

// Clock tells the clock of one that is held.
func (d *Dag) Clock(h api.Hash) int { return d.held[h].Clock }
