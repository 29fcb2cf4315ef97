package dag

import (
	"slices"

	"pleach/api"
	"pleach/sha"
)

// take makes a vertex a held one; all its parents are held, and it doesn't wait.
func (d *Dag) take(v api.Vertex) {
	d.held[v.ID] = v
	d.order = slices.Insert(d.order, d.place(v), v.ID)
	// What is held is closed, so no held one names the new one: it is a head.
	d.heads = slices.DeleteFunc(d.heads, func(h api.Hash) bool { return names(v, h) })
	at, _ := slices.BinarySearchFunc(d.heads, v.ID, sha.Compare)
	d.heads = slices.Insert(d.heads, at, v.ID)
}

// place tells where in the one order a vertex stands that no held one names. No other one comes to be ready by it, so the others stand as they stood; it comes as soon as the last of its parents is placed and the one that would be placed next has a greater hash.
func (d *Dag) place(v api.Vertex) int {
	at := len(d.order)
	for i := len(d.order) - 1; i >= 0 && !names(v, d.order[i]); i-- {
		if sha.Compare(v.ID, d.order[i]) < 0 {
			at = i
		}
	}
	return at
}

// names tells whether a hash is one of a vertex's parents, which rise.
func names(v api.Vertex, h api.Hash) bool {
	_, is := slices.BinarySearchFunc(v.Parents, h, sha.Compare)
	return is
}
