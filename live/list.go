package live

import (
	"maps"
	"slices"
	"sort"

	"pleach/api"
	"pleach/pack"
)

// beginning is the place of a list's beginning among its items. It is no item: it is gone, has no name, and stands beside none.
const beginning = 0

// item is an insert that is an item of its list.
type item struct {
	name   api.Ident
	text   string
	by     int // the number of its entry
	gone   bool
	behind []int // of each entry that has laid items behind it the place of the last one, in the one order
	beside int   // the place of the item that its own entry has laid ahead of it behind the same one; beginning: there is none
}

// list is the items of a list, gone ones too, as they came, and the place of each there by its name.
type list struct {
	items []item
	where map[api.Ident]int
	shown int // how many aren't gone
}

func newList() *list { return &list{items: []item{{gone: true}}, where: map[api.Ident]int{}} }

// take does operations.
func (l *list) take(g *graph, ops []deed) bool {
	was, lost := l.shown, 0
	for _, d := range ops {
		at, is := l.named(g, d)
		switch {
		case !is:
		case d.Kind == api.OpInsert:
			l.insert(g, d, at)
		case !l.items[at].gone:
			l.items[at].gone, l.items[at].text = true, "" // it is never shown again
			l.shown--
			if l.items[at].by != g.newest() {
				lost++
			}
		}
	}
	return lost > 0 || l.shown != was
}

// named tells the place that an operation's At names: the beginning, or an item that it has seen.
func (l *list) named(g *graph, d deed) (int, bool) {
	name := d.At
	if name == (api.Ident{}) {
		return beginning, true
	}
	if name.Node == (api.Hash{}) {
		name.Node = d.name.Node
	}
	at, is := l.where[name]
	return at, is && g.knows(l.items[at].by) // of its own transaction those alone are here yet that stand ahead of it
}

// insert makes an insert an item behind that of a place.
func (l *list) insert(g *graph, d deed, at int) {
	x, own := item{name: d.name, text: d.Text, by: g.newest()}, len(l.items)
	row := l.items[at].behind
	k := sort.Search(len(row), func(i int) bool { return g.later(l.items[row[i]].by) })
	if k > 0 && l.items[row[k-1]].by == x.by {
		x.beside, row[k-1] = row[k-1], own
	} else {
		l.items[at].behind = slices.Insert(row, k, own)
	}
	l.items = append(l.items, x)
	l.where[x.name] = own
	l.shown++
}

func (l *list) stands() bool { return l.shown > 0 }

func (l *list) empty() bool { return len(l.where) == 0 }

func (l *list) lay(o *pack.Out) {
	o.Number(uint64(l.shown))
	for todo := []int{beginning}; len(todo) > 0; {
		x := l.items[todo[len(todo)-1]]
		todo = todo[:len(todo)-1]
		if x.beside != beginning {
			todo = append(todo, x.beside)
		}
		todo = append(todo, x.behind...) // what stands behind it comes next, the latest first
		if !x.gone {
			o.Hash(x.name.Node)
			o.Number(uint64(x.name.Op))
			o.Text(x.text)
		}
	}
}

func (l *list) copy() part {
	c := &list{items: slices.Clone(l.items), where: maps.Clone(l.where), shown: l.shown}
	for i, x := range c.items {
		c.items[i].behind = slices.Clone(x.behind)
	}
	return c
}
