package past

import (
	"cmp"
	"slices"

	"pleach/api"
	"pleach/dag"
	"pleach/node"
)

// wrongAlone tells the first entry that is wrong whatever the later ones are, and why; where none is, where each hash stands.
func wrongAlone(l []api.Entry) (where map[api.Hash]int, e api.Errno, at int) {
	where = map[api.Hash]int{}
	for i, x := range l {
		if i >= api.MaxNodes {
			return nil, api.ErrMany, i
		}
		if e := node.Check(x.Node); e != api.OK {
			return nil, e, i
		}
		if _, is := where[x.ID]; is {
			return nil, api.ErrState, i
		}
		where[x.ID] = i
	}
	return where, api.OK, 0
}

// wrongTogether tells the first entry that doesn't stand with its parents as it should, and why. Where none is, clocks rise from parents on, so that no way of parents comes back to where it began.
func wrongTogether(l []api.Entry, where map[api.Hash]int) (api.Errno, int) {
	for i, x := range l {
		last := 0 // so that one without parents fits: its clock is 1
		for _, h := range x.Node.Parents {
			at, is := where[h]
			if !is {
				return api.ErrAbsent, i
			}
			last = max(last, l[at].Node.Clock)
		}
		if x.Node.Clock != last+1 {
			return api.ErrClock, i
		}
	}
	return api.OK, 0
}

// inOrder tells entries that make a history in the one order, in memory of their own.
func inOrder(l []api.Entry, where map[api.Hash]int) []api.Entry {
	list := make([]api.Entry, 0, len(l))
	for _, h := range order(l) {
		list = append(list, own(l[where[h]]))
	}
	return list
}

// order tells the hashes of entries that make a history in the one order.
func order(l []api.Entry) []api.Hash {
	rising := slices.Clone(l) // parents have lesser clocks: so each finds its parents held, and none has to wait
	slices.SortFunc(rising, func(a, b api.Entry) int { return cmp.Compare(a.Node.Clock, b.Node.Clock) })
	d, _ := dag.New(0) // a room that may be
	for _, x := range rising {
		d.Add(node.Vertex(x))
	}
	return d.Order()
}
