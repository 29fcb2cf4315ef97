// Package sha is layer 1: SHA-256, of bytes at once or in pieces; hashes in their order, and as text.
package sha

import "pleach/api"

// piece is how many bytes go into the words at once.
const piece = 64

// Digest is a row of bytes that comes in pieces.
type Digest struct {
	words [8]uint32   // s0 to s7, behind all whole pieces
	rest  [piece]byte // the first came % piece count: they don't make a piece yet
	came  int
}

// Of tells the SHA-256 of bytes.
func Of(b []byte) api.Hash { return OfAll(b) }

// OfAll tells the SHA-256 of rows of bytes, one behind the other.
func OfAll(l ...[]byte) api.Hash {
	d := New()
	for _, b := range l {
		d.Write(b)
	}
	return d.Sum()
}

// New makes one without bytes.
func New() *Digest { return &Digest{words: begin()} }

// Write lays bytes behind those that came.
func (d *Digest) Write(b []byte) {
	for len(b) > 0 {
		used := d.came % piece
		n := copy(d.rest[used:], b)
		b = b[n:]
		d.came += n
		if used+n == piece {
			d.words = mix(d.words, d.rest)
		}
	}
}

// Sum tells the SHA-256 of all that came.
func (d *Digest) Sum() api.Hash {
	c := *d // the end is laid behind a copy, so that more may come behind d
	c.Write(end(d.came))
	return lay(c.words)
}

// Len tells how many bytes came.
func (d *Digest) Len() int { return d.came }

// Reset takes away all that came.
func (d *Digest) Reset() { *d = Digest{words: begin()} }

// Copy makes another one of the same bytes.
func (d *Digest) Copy() *Digest {
	c := *d
	return &c
}

// end tells what comes behind a row of n bytes, so that the whole is made of pieces and tells its length.
func end(n int) []byte {
	zeros := (2*piece - 9 - n%piece) % piece
	b := make([]byte, 1+zeros, 1+zeros+8)
	b[0] = 0x80
	bits := 8 * uint64(n)
	for shift := 56; shift >= 0; shift -= 8 {
		b = append(b, byte(bits>>shift))
	}
	return b
}

// lay tells words as bytes, the highest byte of each first.
func lay(words [8]uint32) api.Hash {
	var h api.Hash
	for i, w := range words {
		h[4*i] = byte(w >> 24)
		h[4*i+1] = byte(w >> 16)
		h[4*i+2] = byte(w >> 8)
		h[4*i+3] = byte(w)
	}
	return h
}
