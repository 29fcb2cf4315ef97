package seal

import "pleach/api"

// Open tells what a sealed message was set on.
func Open(key, b []byte) (api.Envelope, error) {
	if len(key) != keySize {
		return api.Envelope{}, api.ErrArg
	}
	if bad := wrong(b); bad != nil {
		return api.Envelope{}, bad
	}
	end := len(b) - sumSize
	var sum api.Hash
	copy(sum[:], b[end:])
	if sum != Mac(key, b[:end]) {
		return api.Envelope{}, &api.Bad{Why: api.ErrSeal, At: end}
	}
	body := make([]byte, end-bodyAt)
	copy(body, b[bodyAt:end])
	return api.Envelope{From: int(b[fromAt]), To: int(b[toAt]), Body: body}, nil
}

// wrong tells what is wrong first with the form of a sealed message, or nil; whether the sum fits it leaves open.
func wrong(b []byte) *api.Bad {
	for i := range len(mark) {
		if i >= len(b) {
			return &api.Bad{Why: api.ErrShort, At: i}
		}
		if b[i] != mark[i] {
			return &api.Bad{Why: api.ErrForm, At: i}
		}
	}
	for i := fromAt; i <= toAt; i++ {
		if i >= len(b) {
			return &api.Bad{Why: api.ErrShort, At: i}
		}
		if !isReplica(int(b[i])) {
			return &api.Bad{Why: api.ErrArg, At: i}
		}
	}
	return wrongSize(b)
}

// wrongSize tells what is wrong first with the number of bytes that a message tells, held against those it has; b ends at sizeAt or behind it.
func wrongSize(b []byte) *api.Bad {
	if len(b) < bodyAt {
		return &api.Bad{Why: api.ErrShort, At: sizeAt}
	}
	n := uint32(b[sizeAt]) | uint32(b[sizeAt+1])<<8 | uint32(b[sizeAt+2])<<16 | uint32(b[sizeAt+3])<<24
	if n > api.MaxMessage {
		return &api.Bad{Why: api.ErrOver, At: sizeAt}
	}
	end := bodyAt + int(n) + sumSize
	if len(b) < end {
		return &api.Bad{Why: api.ErrShort, At: bodyAt}
	}
	if len(b) > end {
		return &api.Bad{Why: api.ErrRest, At: end}
	}
	return nil
}
