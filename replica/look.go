package replica

import (
	"pleach/api"
	"pleach/roots"
	"pleach/state"
)

// Register tells what a register holds.
func (r *Replica) Register(key string) ([]string, api.Errno) {
	return shown(r, func() []string { return r.now().Register(key) })
}

// Members tells what a set has.
func (r *Replica) Members(key string) ([]string, api.Errno) {
	return shown(r, func() []string { return r.now().Members(key) })
}

// Count tells a counter.
func (r *Replica) Count(key string) (int64, api.Errno) {
	return shown(r, func() int64 { return r.now().Count(key) })
}

// Items tells what a list shows.
func (r *Replica) Items(key string) ([]api.Item, api.Errno) {
	return shown(r, func() []api.Item { return r.now().Items(key) })
}

// Cells tells all cells.
func (r *Replica) Cells() ([]api.Cell, api.Errno) {
	return shown(r, func() []api.Cell { return r.now().Cells() })
}

// Root tells the root of all cells.
func (r *Replica) Root() (api.Hash, api.Errno) {
	return told(r, func() (api.Hash, api.Errno) { return roots.Root(r.now().Cells()) })
}

// Find tells a witness of a cell.
func (r *Replica) Find(kind int, key string) (api.Witness, api.Errno) {
	return told(r, func() (api.Witness, api.Errno) { return roots.Find(r.now().Cells(), kind, key) })
}

// At tells a cell as it was at some heads.
func (r *Replica) At(heads []api.Hash, kind int, key string) (api.Cell, api.Errno) {
	return told(r, func() (api.Cell, api.Errno) {
		if kind < api.CellRegister || kind > api.CellList {
			return api.Cell{}, api.ErrKind
		}
		p, e := r.shelf.Past().At(heads)
		if e != api.OK {
			return api.Cell{}, e
		}
		c, _ := state.Of(p).Cell(kind, key)
		return c, api.OK
	})
}

// Heads tells the heads.
func (r *Replica) Heads() ([]api.Hash, api.Errno) { return shown(r, r.shelf.Heads) }

// Held tells what is held, in the one order.
func (r *Replica) Held() ([]api.Hash, api.Errno) { return shown(r, r.shelf.Order) }

// Waiting tells what waits, the oldest first.
func (r *Replica) Waiting() ([]api.Hash, api.Errno) { return shown(r, r.shelf.Waiting) }

// Block tells the block of what is held.
func (r *Replica) Block(h api.Hash) ([]byte, api.Errno) {
	return told(r, func() ([]byte, api.Errno) { return r.shelf.Block(h) })
}

// now tells what the history shows; the open transaction is no part of it.
func (r *Replica) now() *state.State { return state.Of(r.shelf.Past()) }
