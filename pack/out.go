// Package pack is layer 2: numbers, bytes, texts and hashes laid down one behind the other, each in one form only, and read strictly.
package pack

import (
	"math/bits"

	"pleach/api"
)

const (
	group = 7          // bits of a number that stand in a byte
	more  = 1 << group // is added to a byte behind which the number goes on
)

// bytesOrText is what has the form of bytes.
type bytesOrText interface{ []byte | string }

// Size tells how many bytes the form of a number has.
func Size(x uint64) int {
	return max(1, (bits.Len64(x)+group-1)/group)
}

// Out is bytes in the making.
type Out struct{ laid []byte }

// NewOut makes one without bytes.
func NewOut() *Out { return &Out{} }

// Byte lays a byte.
func (o *Out) Byte(x byte) { o.laid = append(o.laid, x) }

// Number lays the form of a number.
func (o *Out) Number(x uint64) {
	for x >= more {
		o.Byte(byte(x%more) + more)
		x >>= group
	}
	o.Byte(byte(x))
}

// Signed lays the form of a signed number.
func (o *Out) Signed(x int64) {
	// Numbers wrap round here, so that the least one, which has none like it above 0, needs no case of its own.
	twice := 2 * uint64(x)
	if x < 0 {
		twice = -twice - 1
	}
	o.Number(twice)
}

// Raw lays bytes as they are.
func (o *Out) Raw(b []byte) { o.laid = append(o.laid, b...) }

// Bytes lays the form of bytes.
func (o *Out) Bytes(b []byte) { lay(o, b) }

// Text lays the form of a text.
func (o *Out) Text(s string) { lay(o, s) }

// Hash lays the form of a hash.
func (o *Out) Hash(h api.Hash) { o.Raw(h[:]) }

// Len tells how many bytes were laid.
func (o *Out) Len() int { return len(o.laid) }

// Done tells the bytes that were laid.
func (o *Out) Done() []byte {
	b := make([]byte, len(o.laid))
	copy(b, o.laid)
	return b
}

// lay lays how many bytes there are, and they.
func lay[T bytesOrText](o *Out, x T) {
	o.Number(uint64(len(x)))
	o.laid = append(o.laid, x...)
}
