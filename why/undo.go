package why

import (
	"cmp"
	"iter"
	"slices"

	"pleach/api"
)

// How much of a cell an operation undoes.
const (
	nothing = iota
	oneItem
	oneText
	whole
)

// aim is what an operation undoes of what it has seen of its cell.
type aim struct {
	much int
	item api.Ident
	text string
}

// undoes tells what an operation undoes.
func (l *look) undoes(d deed) aim {
	switch d.Kind {
	case api.OpPut, api.OpClear, api.OpWipe, api.OpZero:
		return aim{much: whole}
	case api.OpRemove:
		return aim{much: oneText, text: d.Text}
	case api.OpDelete:
		return aim{much: oneItem, item: l.named(d)}
	}
	return aim{}
}

// undoneBy tells the aims of those operations that undo a making one. An add is of the narrower kind: behind its text alone it goes on as those of the wider one, which are undone with the whole cell only.
func (l *look) undoneBy(d deed) []aim {
	var out []aim
	switch d.Kind {
	case api.OpInsert:
		out = append(out, aim{much: oneItem, item: l.name(d.spot)})
	case api.OpAdd:
		out = append(out, aim{much: oneText, text: d.Text})
		fallthrough
	case api.OpPut, api.OpIncr:
		out = append(out, aim{much: whole})
	}
	return out
}

// named tells the name that the At of an operation has, with its own transaction's hash, if it names none.
func (l *look) named(d deed) api.Ident {
	at := d.At
	if at.Node == (api.Hash{}) {
		at.Node = l.whose[d.by].id
	}
	return at
}

// isUndone tells whether anything undoes a making operation.
func (l *look) isUndone(d deed) bool {
	for range l.against(d) {
		return true
	}
	return false
}

// undoers tells the names of all that undo a making operation, in the one order.
func (l *look) undoers(d deed) []api.Ident {
	spots := slices.SortedFunc(l.against(d), func(a, b spot) int {
		return cmp.Or(cmp.Compare(a.by, b.by), cmp.Compare(a.number, b.number))
	})
	out := make([]api.Ident, len(spots))
	for i, s := range spots {
		out[i] = l.name(s)
	}
	return out
}

// against gives where those operations stand that have seen a making one and undo it: aim by aim.
func (l *look) against(d deed) iter.Seq[spot] {
	return func(yield func(spot) bool) {
		for _, a := range l.undoneBy(d) {
			for _, r := range since(l.undo[a], d.by) {
				for _, n := range l.seeing(r, d.spot) {
					if !yield(spot{r.by, n}) {
						return
					}
				}
			}
		}
	}
}

// since tells the rows of a transaction and of those behind it: none ahead of it has seen it.
func since(rows []row, by int) []row {
	at, _ := slices.BinarySearchFunc(rows, by, func(r row, by int) int { return cmp.Compare(r.by, by) })
	return rows[at:]
}

// seeing tells the numbers of those of a row that have seen the operation of a spot.
func (l *look) seeing(r row, s spot) []int {
	if r.by == s.by {
		at, _ := slices.BinarySearch(r.numbers, s.number+1)
		return r.numbers[at:]
	}
	if l.Sees(s.by, r.by) {
		return r.numbers
	}
	return nil
}
