package state

import (
	"slices"

	"pleach/api"
)

// part is those transactions of a history that speak of a key, with what they say of it alone. A hash here tells a place, so that the one order is that of the history.
type part struct {
	of    *keyed
	by    []int // the numbers of the transactions in the history
	list  []api.Entry
	here  map[api.Ident]api.Ident // the names of inserts here, by those that they have in the history
	there map[api.Ident]api.Ident // and back
}

// take lays the next operation of the key.
func (t *part) take(d deed) {
	if end := len(t.by) - 1; end < 0 || t.by[end] != d.by {
		t.begin(d.by)
	}
	from, to := t.of.list[d.by], &t.list[len(t.list)-1]
	o := from.Node.Ops[d.number-1]
	o.At = t.named(o.At, from.ID)
	to.Node.Ops = append(to.Node.Ops, o)
	if o.Kind == api.OpInsert {
		was, is := api.Ident{Node: from.ID, Op: d.number}, api.Ident{Node: to.ID, Op: len(to.Node.Ops)}
		t.here[was], t.there[is] = is, was
	}
}

// begin lays a transaction that has no operations yet.
func (t *part) begin(by int) {
	x := api.Entry{ID: placeHash(len(t.list)), Node: api.Node{Author: 1, Clock: 1}}
	for _, i := range t.last(by) {
		x.Node.Parents = append(x.Node.Parents, t.list[i].ID)
		x.Node.Clock = max(x.Node.Clock, t.list[i].Node.Clock+1)
	}
	t.by, t.list = append(t.by, by), append(t.list, x)
}

// last tells the places of those that a transaction has seen, but for those that another one of these has seen, rising: as its parents they are enough. Of too many to be parents one too many is told, so that no history is made of them.
func (t *part) last(by int) []int {
	var l []int
	for i := len(t.by) - 1; i >= 0 && len(l) <= api.MaxParents; i-- {
		passed := func(later int) bool { return t.of.p.Sees(t.by[i], t.by[later]) }
		if t.of.p.Sees(t.by[i], by) && !slices.ContainsFunc(l, passed) {
			l = append(l, i)
		}
	}
	slices.Reverse(l)
	return l
}

// named tells an At of the transaction of a hash by the names here.
func (t *part) named(at api.Ident, own api.Hash) api.Ident {
	if at == (api.Ident{}) {
		return at
	}
	if at.Node == (api.Hash{}) {
		at.Node = own
	}
	if name, is := t.here[at]; is {
		return name
	}
	return api.Ident{Node: placeHash(api.MaxNodes), Op: 1} // nobody's, since it names no insert of the key that it could have seen
}

// placeHash tells a hash by a place: that of a later one is greater, and none is the zero hash.
func placeHash(i int) api.Hash { return api.Hash{1, byte(i >> 8), byte(i)} }
