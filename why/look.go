package why

import (
	"pleach/api"
	"pleach/op"
	"pleach/past"
	"pleach/seq"
)

// look is a history with what is looked for in it: the operations of one cell.
type look struct {
	*past.Past
	whose []whose
	items map[api.Ident]int // the names of the cell's items, if it is a list
	made  []deed            // those that make something, in the one order
	undo  map[aim][]row     // those that undo something, by what that is, in the one order
}

// whose is the hash of a transaction, and who made it.
type whose struct {
	id     api.Hash
	author int
}

// spot is where an operation stands in the one order: the number of its transaction, and its own there.
type spot struct{ by, number int }

// deed is an operation of the cell, and where it stands.
type deed struct {
	api.Op
	spot
}

// row is those numbers of one transaction's operations that undo the same, rising.
type row struct {
	by      int
	numbers []int
}

// lookFor reads the operations of a cell.
func lookFor(p *past.Past, kind int, key string) *look {
	l := &look{Past: p, items: map[api.Ident]int{}, undo: map[aim][]row{}}
	if kind == api.CellList {
		for i, x := range seq.All(p, key) {
			l.items[x.ID] = i
		}
	}
	for i, x := range l.All() {
		l.whose = append(l.whose, whose{x.ID, x.Node.Author})
		for k, o := range x.Node.Ops {
			if o.Key == key && op.Cell(o.Kind) == kind {
				l.take(deed{o, spot{i, k + 1}})
			}
		}
	}
	return l
}

// take takes the next operation; one may both make something and undo what others made.
func (l *look) take(d deed) {
	if l.makes(d) {
		l.made = append(l.made, d)
	}
	if a := l.undoes(d); a != (aim{}) {
		l.undo[a] = laid(l.undo[a], d.spot)
	}
}

// laid tells rows with one operation more, which comes behind all of them.
func laid(rows []row, s spot) []row {
	last := len(rows) - 1
	if last < 0 || rows[last].by != s.by {
		return append(rows, row{by: s.by, numbers: []int{s.number}})
	}
	rows[last].numbers = append(rows[last].numbers, s.number)
	return rows
}

// makes tells whether an operation makes something of its cell.
func (l *look) makes(d deed) bool {
	switch d.Kind {
	case api.OpPut, api.OpAdd, api.OpIncr:
		return true
	case api.OpInsert:
		_, is := l.items[l.name(d.spot)]
		return is
	}
	return false
}

// name tells the name of the operation of a spot.
func (l *look) name(s spot) api.Ident { return api.Ident{Node: l.whose[s.by].id, Op: s.number} }

// mark tells an operation as it is told, without what undoes it.
func (l *look) mark(d deed) Mark {
	return Mark{Of: l.name(d.spot), Author: l.whose[d.by].author}
}
