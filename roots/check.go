package roots

import "pleach/api"

// Check tells what a witness says to whoever knows the root.
func Check(root api.Hash, kind int, key string, w api.Witness) (api.Cell, bool, api.Errno) {
	if !isKind(kind) {
		return api.Cell{}, false, api.ErrKind
	}
	if !formed(w) || !answers(w, kind, key) || !rooted(w, root) {
		return api.Cell{}, false, api.ErrWitness
	}
	if !tells(w, kind, key) {
		return api.Cell{}, false, api.OK
	}
	return own(w.Leaves[0].Cell), true, api.OK
}

// formed tells whether a witness has as many Leaves as it may have, each of a number and a kind that may be.
func formed(w api.Witness) bool {
	if w.Cells == 0 {
		return len(w.Leaves) == 0
	}
	if w.Cells < 0 || len(w.Leaves) < 1 || len(w.Leaves) > 2 {
		return false
	}
	for _, x := range w.Leaves {
		if x.Number < 0 || x.Number >= w.Cells || !isKind(x.Cell.Kind) {
			return false
		}
	}
	return true
}

// answers tells whether the Leaves of a witness that is formed leave open nothing of a kind and key: they are that cell's, or no cell has room between them, or beyond the one at an end.
func answers(w api.Witness, kind int, key string) bool {
	if len(w.Leaves) == 0 {
		return true
	}
	first, last := w.Leaves[0], w.Leaves[len(w.Leaves)-1]
	ahead, behind := stands(first.Cell, kind, key) < 0, stands(last.Cell, kind, key) > 0
	if len(w.Leaves) == 2 {
		return last.Number == first.Number+1 && ahead && behind
	}
	return tells(w, kind, key) || behind && first.Number == 0 || ahead && first.Number == w.Cells-1
}

// tells tells whether a witness has the one leaf of a kind and key.
func tells(w api.Witness, kind int, key string) bool {
	return len(w.Leaves) == 1 && stands(w.Leaves[0].Cell, kind, key) == 0
}

// rooted tells whether a witness that is formed leads to a root, from each leaf.
func rooted(w api.Witness, root api.Hash) bool {
	if w.Cells == 0 {
		return rootOf(0) == root
	}
	for _, x := range w.Leaves {
		h, is := climb(x, w.Cells)
		if !is || rootOf(w.Cells, h[:]) != root {
			return false
		}
	}
	return true
}
