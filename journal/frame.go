package journal

import (
	"pleach/api"
	"pleach/sha"
)

const (
	headSize = 16 // bytes of a frame ahead of its payload
	sumSize  = 8  // bytes of the payload's hash that stand in its head
)

// head tells what stands ahead of a payload in its frame: its length, twice, and the beginning of its hash.
func head(payload []byte) [headSize]byte {
	var b [headSize]byte
	n := uint32(len(payload))
	for i := range 4 {
		b[i] = byte(n >> (8 * i))
		b[4+i] = ^b[i]
	}
	sum := sha.Of(payload)
	copy(b[headSize-sumSize:], sum[:sumSize])
	return b
}

// frame tells the frame of a payload.
func frame(payload []byte) []byte {
	h := head(payload)
	b := make([]byte, 0, headSize+len(payload))
	return append(append(b, h[:]...), payload...)
}

// begun tells the payload of the right frame that begins at the first of the bytes, a part of them; none, if no right frame begins there.
func begun(b []byte) []byte {
	if len(b) < headSize {
		return nil
	}
	n := uint32(0)
	for i := range 4 {
		n |= uint32(b[i]) << (8 * i)
	}
	rest := b[headSize:]
	if n < 1 || n > api.MaxNode || int(n) > len(rest) {
		return nil
	}
	payload := rest[:n]
	if head(payload) != [headSize]byte(b) {
		return nil
	}
	return payload
}
