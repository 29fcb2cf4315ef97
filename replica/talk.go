package replica

import (
	"pleach/api"
	"pleach/ark"
	"pleach/msg"
	"pleach/seal"
	"pleach/session"
)

// reply is what is said to a message, and what was taken of it.
type reply struct {
	rows  [][]byte
	taken api.Taken
}

// Tick tells what is said to another replica.
func (r *Replica) Tick(to int) ([]byte, api.Errno) {
	return told(r, func() ([]byte, api.Errno) {
		if !isReplica(to) || to == r.author {
			return nil, api.ErrArg
		}
		r.ticks++
		return r.sealed(to, session.Hello(r.shelf, r.ticks)), api.OK
	})
}

// Deliver takes what another replica said, and tells what is said to it.
func (r *Replica) Deliver(b []byte) ([][]byte, api.Taken, api.Errno) {
	x, e := told(r, func() (reply, api.Errno) { return r.hear(b) })
	return x.rows, x.taken, e
}

// Export tells the ark of what is held.
func (r *Replica) Export() ([]byte, api.Errno) {
	return shown(r, func() []byte { return ark.Pack(r.shelf) })
}

// Import takes an ark in.
func (r *Replica) Import(b []byte) (api.Taken, api.Errno) {
	return told(r, func() (api.Taken, api.Errno) {
		t, err := ark.Load(r.shelf, b)
		e := alive(number(err))
		r.keep(t)
		return t, e // with an error, too: what was taken ahead of it stays
	})
}

// hear tells what is said to a message, if it is one to this replica.
func (r *Replica) hear(b []byte) (reply, api.Errno) {
	x, err := seal.Open(r.key, b)
	if err != nil {
		return reply{}, number(err)
	}
	if x.To != r.author || x.From == r.author {
		return reply{}, api.ErrArg
	}
	m, err := msg.Decode(x.Body)
	if err != nil {
		return reply{}, number(err)
	}
	l, t, e := session.Answer(r.shelf, m)
	if alive(e) != api.OK { // none: what Decode tells may be
		return reply{}, e
	}
	r.keep(t)
	out := reply{taken: t}
	for _, m := range l {
		out.rows = append(out.rows, r.sealed(x.From, m))
	}
	return out, api.OK
}

// keep makes safe what was taken, if anything was.
func (r *Replica) keep(t api.Taken) {
	if len(t.IDs) > 0 {
		r.sync()
	}
}

// sealed tells a message to another replica as bytes, under a seal.
func (r *Replica) sealed(to int, m api.Message) []byte {
	body, _ := msg.Encode(m) // what layer 20 says may be
	b, _ := seal.Seal(r.key, api.Envelope{From: r.author, To: to, Body: body})
	return b
}
