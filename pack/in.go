package pack

import (
	"math"

	"pleach/api"
)

// longest is how many bytes the form of a number has at most.
const longest = 10

// In reads bytes strictly.
type In struct {
	row string // a text, so that every piece of it that is told as bytes is a copy
	at  int    // behind an error: its place
	bad *api.Bad
}

// NewIn makes one that stands at the byte 0.
func NewIn(b []byte) *In { return &In{row: string(b)} }

// Byte reads a byte.
func (r *In) Byte() (byte, error) {
	s, err := r.next(1)
	if err != nil {
		return 0, err
	}
	return s[0], nil
}

// Number reads the form of a number that is at most so much.
func (r *In) Number(most uint64) (uint64, error) {
	if r.bad != nil {
		return 0, r.bad
	}
	x, size, why := first(r.row[r.at:])
	if why == api.OK && x > most {
		why = api.ErrOver
	}
	if why != api.OK {
		return 0, r.fail(why)
	}
	r.at += size
	return x, nil
}

// Signed reads the form of a signed number.
func (r *In) Signed() (int64, error) {
	x, err := r.Number(math.MaxUint64)
	if err != nil {
		return 0, err
	}
	half := int64(x / 2)
	if x%2 == 1 {
		return -half - 1, nil
	}
	return half, nil
}

// Raw reads so many bytes.
func (r *In) Raw(n int) ([]byte, error) {
	s, err := r.next(n)
	if err != nil {
		return nil, err
	}
	return []byte(s), nil
}

// Bytes reads the form of at most so many bytes.
func (r *In) Bytes(most int) ([]byte, error) { return read[[]byte](r, most) }

// Text reads the form of a text of at most so many bytes.
func (r *In) Text(most int) (string, error) { return read[string](r, most) }

// Hash reads the form of a hash.
func (r *In) Hash() (api.Hash, error) {
	var h api.Hash
	s, err := r.next(len(h))
	copy(h[:], s)
	return h, err
}

// At tells at which byte it stands; behind an error that error's place.
func (r *In) At() int { return r.at }

// Left tells how many bytes there are from there on.
func (r *In) Left() int { return len(r.row) - r.at }

// End asks that none are left.
func (r *In) End() error {
	if r.bad != nil {
		return r.bad
	}
	if r.Left() > 0 {
		return r.fail(api.ErrRest)
	}
	return nil
}

// fail keeps an error at the byte where r stands, for all calls that come.
func (r *In) fail(why api.Errno) error {
	r.bad = &api.Bad{Why: why, At: r.at}
	return r.bad
}

// next reads n bytes as they are.
func (r *In) next(n int) (string, error) {
	if r.bad != nil {
		return "", r.bad
	}
	if n < 0 {
		return "", r.fail(api.ErrArg)
	}
	if n > r.Left() {
		return "", r.fail(api.ErrShort)
	}
	s := r.row[r.at : r.at+n]
	r.at += n
	return s, nil
}

// read reads how many bytes there are, at most so many, and they.
func read[T bytesOrText](r *In, most int) (T, error) {
	var none T
	n, err := r.Number(uint64(max(most, 0)))
	if err != nil {
		return none, err
	}
	s, err := r.next(int(n)) // n fits: it is at most most
	if err != nil {
		return none, err
	}
	return T(s), nil
}

// first tells the number whose form bytes begin with, and how many of them it has.
func first(s string) (uint64, int, api.Errno) {
	x := uint64(0)
	for i := 0; i < len(s); i++ {
		c := s[i]
		if i == longest-1 && c > 1 {
			return 0, 0, api.ErrOver
		}
		x += uint64(c%more) << (group * i)
		if c == 0 && i > 0 {
			return 0, 0, api.ErrLong
		}
		if c < more {
			return x, i + 1, api.OK
		}
	}
	return 0, 0, api.ErrShort
}
