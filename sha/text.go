package sha

import (
	"strings"

	"pleach/api"
)

const (
	digits     = "0123456789abcdef"
	textLength = 64
)

// Print tells a hash as text.
func Print(h api.Hash) string {
	var text [textLength]byte
	for i, x := range h {
		text[2*i] = digits[x>>4]
		text[2*i+1] = digits[x&15]
	}
	return string(text[:])
}

// Parse tells the hash of a text.
func Parse(text string) (api.Hash, api.Errno) {
	if len(text) != textLength {
		return api.Hash{}, api.ErrHex
	}
	var h api.Hash
	for i := range h {
		high := strings.IndexByte(digits, text[2*i])
		low := strings.IndexByte(digits, text[2*i+1])
		if high < 0 || low < 0 {
			return api.Hash{}, api.ErrHex
		}
		h[i] = byte(high<<4 | low)
	}
	return h, api.OK
}
