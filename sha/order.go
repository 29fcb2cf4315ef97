package sha

import (
	"cmp"
	"slices"

	"pleach/api"
)

// Compare tells which of two hashes stands ahead: -1 the first one, 1 the second one, 0 neither.
func Compare(a, b api.Hash) int {
	if a == b {
		return 0
	}
	i := 0
	for a[i] == b[i] { // ends inside: they differ
		i++
	}
	return cmp.Compare(a[i], b[i])
}

// Sort tells hashes rising, each once.
func Sort(l []api.Hash) []api.Hash {
	out := make([]api.Hash, len(l))
	copy(out, l)
	slices.SortFunc(out, Compare)
	return slices.Compact(out)
}

// Rising tells whether hashes rise, each once.
func Rising(l []api.Hash) bool {
	for i := 1; i < len(l); i++ {
		if Compare(l[i-1], l[i]) >= 0 {
			return false
		}
	}
	return true
}
