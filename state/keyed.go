package state

import (
	"pleach/api"
	"pleach/past"
)

// dear is how many operations are gone through in about the time in which one is laid into a history.
const dear = 100

// deed is an operation: the number of its transaction in a history, and its own there, from 1 on.
type deed struct{ by, number int }

// keyed is a history whose operations are found by their keys.
type keyed struct {
	p     *past.Past
	list  []api.Entry       // in the one order
	deeds map[string][]deed // in the one order
	count int               // of all operations
}

// byKeys goes through a history.
func byKeys(p *past.Past) *keyed {
	k := &keyed{p: p, deeds: map[string][]deed{}}
	for i, x := range p.All() {
		k.list = append(k.list, x)
		k.count += len(x.Node.Ops)
		for n, o := range x.Node.Ops {
			k.deeds[o.Key] = append(k.deeds[o.Key], deed{by: i, number: n + 1})
		}
	}
	return k
}

// source tells out of which history a key is read. What stands under a key hangs on its own operations, their order and who has seen whom, on nothing else; so where they are few, a history of these alone will do. (With as many ways through the whole one as there are keys, a history of many keys would take hours.)
func (k *keyed) source(key string) source {
	whole := source{p: k.p}
	l := k.deeds[key]
	if len(l)*dear > k.count {
		return whole
	}
	t := part{of: k, here: map[api.Ident]api.Ident{}, there: map[api.Ident]api.Ident{}}
	for _, d := range l {
		t.take(d)
	}
	p, e, _ := past.Of(t.list)
	if e != api.OK { // one of them would need more parents than may be
		return whole
	}
	return source{p: p, names: t.there}
}
