package msg

import (
	"pleach/api"
	"pleach/bloom"
	"pleach/giveup"
	"pleach/pack"
)

// Decode tells the message of bytes.
func Decode(b []byte) (m api.Message, err error) {
	if len(b) > api.MaxMessage {
		return api.Message{}, api.ErrBytes
	}
	defer func() {
		if x := recover(); x != nil {
			m, err = api.Message{}, giveup.Caught(x)
		}
	}()
	return readMessage(pack.NewIn(b)), nil
}

// readMessage reads a message and nothing behind it.
func readMessage(r *pack.In) api.Message {
	begin := r.At()
	m := api.Message{Kind: int(giveup.Must(r.Byte()))}
	fields, ok := fieldTable()[m.Kind]
	if !ok {
		giveup.At(api.ErrKind, begin)
	}
	for _, f := range fields {
		f.get(r, &m)
	}
	if err := r.End(); err != nil {
		giveup.With(err)
	}
	return m
}

// getHashes reads how many hashes there are, at most so many, and they, each behind the one ahead.
func getHashes(r *pack.In, most uint64) []api.Hash {
	l := []api.Hash{}
	for range giveup.Must(r.Number(most)) {
		begin := r.At()
		h := giveup.Must(r.Hash())
		if len(l) > 0 && !behind(h, l[len(l)-1]) {
			giveup.At(api.ErrOrder, begin)
		}
		l = append(l, h)
	}
	return l
}

func getSalt(r *pack.In) uint64 {
	salt := uint64(0)
	for i, x := range giveup.Must(r.Raw(saltBytes)) {
		salt |= uint64(x) << (8 * i)
	}
	return salt
}

func getDigest(r *pack.In) []byte {
	begin := r.At()
	b := giveup.Must(r.Bytes(api.MaxBloom))
	if !bloom.Right(b) {
		giveup.At(api.ErrShape, begin)
	}
	return b
}

// getBlocks reads how many blocks there are, one at least, and they.
func getBlocks(r *pack.In) [][]byte {
	begin := r.At()
	count := giveup.Must(r.Number(api.MaxBatch))
	if count == 0 {
		giveup.At(api.ErrArg, begin)
	}
	l := [][]byte{}
	for range count {
		l = append(l, getBlock(r))
	}
	return l
}

func getBlock(r *pack.In) []byte {
	begin := r.At()
	row := giveup.Must(r.Bytes(api.MaxNode))
	if len(row) == 0 {
		giveup.At(api.ErrBytes, begin)
	}
	return row
}
