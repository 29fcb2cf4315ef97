package past

// set is a set of numbers of entries, a bit each. Another one that is joined or dropped has no more room than the one that changes.
type set []uint64

const wordBits = 64

// room tells an empty set with room for so many numbers, from 0 on.
func room(n int) set { return make(set, (n+wordBits-1)/wordBits) }

// has tells whether a number is there.
func (s set) has(i int) bool {
	word := i / wordBits
	return word < len(s) && s[word]>>(i%wordBits)&1 == 1
}

// add puts a number in.
func (s set) add(i int) { s[i/wordBits] |= 1 << (i % wordBits) }

// join puts all of another one in.
func (s set) join(o set) {
	for k, word := range o {
		s[k] |= word
	}
}

// meet leaves what another one, of the same room, has, too.
func (s set) meet(o set) {
	for k, word := range o {
		s[k] &= word
	}
}

// drop takes all of another one out.
func (s set) drop(o set) {
	for k, word := range o {
		s[k] &^= word
	}
}
