package msg

import (
	"pleach/api"
	"pleach/pack"
)

const saltBytes = 8 // bytes of a Salt

// field is what is done with a field of a message.
type field struct {
	wipe func(m *api.Message)
	put  func(o *pack.Out, m api.Message)
	get  func(r *pack.In, m *api.Message) // gives up at what is wrong
}

// fieldTable tells which fields each kind has, in the order in which they are laid; no other kind may be.
func fieldTable() map[int][]field {
	return map[int][]field{
		api.MsgHello:  {headsField(), saltField(), digestField(), wantField()},
		api.MsgWant:   {wantField()},
		api.MsgBlocks: {blocksField()},
	}
}

func headsField() field {
	return field{
		wipe: func(m *api.Message) { m.Heads = nil },
		put:  func(o *pack.Out, m api.Message) { putHashes(o, m.Heads) },
		get:  func(r *pack.In, m *api.Message) { m.Heads = getHashes(r, api.MaxNodes) },
	}
}

func saltField() field {
	return field{
		wipe: func(m *api.Message) { m.Salt = 0 },
		put:  func(o *pack.Out, m api.Message) { putSalt(o, m.Salt) },
		get:  func(r *pack.In, m *api.Message) { m.Salt = getSalt(r) },
	}
}

func digestField() field {
	return field{
		wipe: func(m *api.Message) { m.Bloom = nil },
		put:  func(o *pack.Out, m api.Message) { o.Bytes(m.Bloom) },
		get:  func(r *pack.In, m *api.Message) { m.Bloom = getDigest(r) },
	}
}

func wantField() field {
	return field{
		wipe: func(m *api.Message) { m.Want = nil },
		put:  func(o *pack.Out, m api.Message) { putHashes(o, m.Want) },
		get:  func(r *pack.In, m *api.Message) { m.Want = getHashes(r, api.MaxWant) },
	}
}

func blocksField() field {
	return field{
		wipe: func(m *api.Message) { m.Blocks = nil },
		put:  func(o *pack.Out, m api.Message) { putBlocks(o, m.Blocks) },
		get:  func(r *pack.In, m *api.Message) { m.Blocks = getBlocks(r) },
	}
}

func putHashes(o *pack.Out, l []api.Hash) {
	o.Number(uint64(len(l)))
	for _, h := range l {
		o.Hash(h)
	}
}

func putSalt(o *pack.Out, salt uint64) {
	for range saltBytes {
		o.Byte(byte(salt))
		salt >>= 8
	}
}

func putBlocks(o *pack.Out, l [][]byte) {
	o.Number(uint64(len(l)))
	for _, row := range l {
		o.Bytes(row)
	}
}
