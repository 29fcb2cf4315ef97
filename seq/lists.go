package seq

import (
	"pleach/api"
	"pleach/past"
)

// none is the place of no item: a list's beginning, and its end.
const none = -1

// item is an insert that is an item of its list.
type item struct {
	name api.Ident
	key  string
	text string
	by   int // the number of its transaction
	at   int // the place of the item that its At names; none: the beginning
	gone bool
}

// lists is the items of a history's lists, in the one order, and the place of each there by its name.
type lists struct {
	p     *past.Past
	items []item
	where map[api.Ident]int
}

// deed is an operation: the number of its transaction, and its name.
type deed struct {
	api.Op
	by   int
	name api.Ident
}

// listOf reads one list.
func listOf(p *past.Past, key string) *lists {
	return read(p, func(o api.Op) bool { return o.Key == key })
}

// read goes through those operations of a history that are wanted. In the one order each comes behind all that it has seen, so it finds the item that it names.
func read(p *past.Past, wanted func(api.Op) bool) *lists {
	l := &lists{p: p, where: map[api.Ident]int{}}
	for i, x := range p.All() {
		for k, o := range x.Node.Ops {
			if wanted(o) {
				l.do(deed{Op: o, by: i, name: api.Ident{Node: x.ID, Op: k + 1}})
			}
		}
	}
	return l
}

// do does an operation; those of other kinds have nothing to do with lists.
func (l *lists) do(d deed) {
	switch d.Kind {
	case api.OpInsert:
		if d.At == (api.Ident{}) {
			l.lay(d, none)
		} else if at, is := l.named(d); is {
			l.lay(d, at)
		}
	case api.OpDelete:
		if at, is := l.named(d); is {
			l.items[at].gone = true
		}
	}
}

// lay makes an insert the item behind the one of a place.
func (l *lists) lay(d deed, at int) {
	l.where[d.name] = len(l.items)
	l.items = append(l.items, item{name: d.name, key: d.Key, text: d.Text, by: d.by, at: at})
}

// named tells the place of the item that an operation's At names, if that is one of its list that it has seen.
func (l *lists) named(d deed) (int, bool) {
	name := d.At
	if name.Node == (api.Hash{}) {
		name.Node = d.name.Node
	}
	at, is := l.where[name]
	if !is {
		return 0, false
	}
	x := l.items[at] // of its own transaction those alone are here yet that stand ahead of it
	return at, x.key == d.Key && (x.by == d.by || l.p.Sees(x.by, d.by))
}

// inOrder tells the items of the one list that was read in that list's order. Laid in the one order, each comes later than all that are there, so it stands right behind the one that its At names.
func (l *lists) inOrder() []item {
	first, next := none, make([]int, len(l.items))
	for i, x := range l.items {
		ahead := &first
		if x.at != none {
			ahead = &next[x.at]
		}
		next[i], *ahead = *ahead, i
	}
	out := make([]item, 0, len(l.items))
	for i := first; i != none; i = next[i] {
		out = append(out, l.items[i])
	}
	return out
}
