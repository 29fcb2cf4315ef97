package live

import (
	"pleach/api"
	"pleach/pack"
)

// part is what operations have left at one place.
type part interface {
	// take does those of the newest entry of a graph, in their order, at least one; it tells whether what is shown has changed.
	take(g *graph, l []deed) bool
	// stands tells whether there is a cell.
	stands() bool
	// empty tells whether it is as it was before any operation.
	empty() bool
	// lay lays the Value of the cell, if there is one.
	lay(o *pack.Out)
	// copy tells the same; neither sees what is done to the other.
	copy() part
}

// newPart makes one that is empty.
func newPart(kind int) part {
	switch kind {
	case api.CellRegister:
		return &register{}
	case api.CellSet:
		return newSet()
	case api.CellCounter:
		return &counter{}
	}
	return newList()
}

// deed is an operation, with the name that its item has, if it is one's.
type deed struct {
	api.Op
	name api.Ident
}

// deeds tells by places the operations of a transaction that may be, each place's in their order.
func deeds(e api.Entry) map[place][]deed {
	all := map[place][]deed{}
	for i, o := range e.Node.Ops {
		at := place{kind: cellOf(o.Kind), key: o.Key}
		all[at] = append(all[at], deed{Op: o, name: api.Ident{Node: e.ID, Op: i + 1}})
	}
	return all
}

// cellOf tells of which kind of cell the operations of a kind speak.
func cellOf(kind int) int {
	switch kind {
	case api.OpPut, api.OpClear:
		return api.CellRegister
	case api.OpAdd, api.OpRemove, api.OpWipe:
		return api.CellSet
	case api.OpIncr, api.OpZero:
		return api.CellCounter
	}
	return api.CellList
}

// layTexts lays how many texts there are, and they.
func layTexts(o *pack.Out, l []string) {
	o.Number(uint64(len(l)))
	for _, text := range l {
		o.Text(text)
	}
}
