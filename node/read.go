package node

import (
	"pleach/api"
	"pleach/giveup"
	"pleach/op"
	"pleach/pack"
	"pleach/sha"
)

// Decode tells the transaction whose block bytes are.
func Decode(b []byte) (n api.Node, err error) {
	if len(b) > api.MaxNode {
		return api.Node{}, &api.Bad{Why: api.ErrBytes, At: api.MaxNode}
	}
	defer func() {
		if x := recover(); x != nil {
			n, err = api.Node{}, giveup.Caught(x)
		}
	}()
	return readBlock(pack.NewIn(b)), nil
}

// readBlock reads a block and nothing behind it.
func readBlock(r *pack.In) api.Node {
	readForm(r)
	n := api.Node{Author: readAuthor(r)}
	clockAt := r.At()
	n.Clock = readClock(r)
	count := int(giveup.Must(r.Number(api.MaxParents)))
	if !clockFits(n.Clock, count) {
		giveup.At(api.ErrClock, clockAt)
	}
	n.Parents = readParents(r, count)
	n.Ops = giveup.Must(op.Get(r))
	if err := r.End(); err != nil {
		giveup.With(err)
	}
	return n
}

func readForm(r *pack.In) {
	at := r.At()
	if giveup.Must(r.Byte()) != form {
		giveup.At(api.ErrForm, at)
	}
}

func readAuthor(r *pack.In) int {
	at := r.At()
	author := int(giveup.Must(r.Byte()))
	if !isAuthor(author) {
		giveup.At(api.ErrAuthor, at)
	}
	return author
}

func readClock(r *pack.In) int {
	at := r.At()
	clock := int(giveup.Must(r.Number(api.MaxNodes)))
	if clock == 0 {
		giveup.At(api.ErrClock, at)
	}
	return clock
}

// readParents reads so many hashes, each behind the one ahead.
func readParents(r *pack.In, count int) []api.Hash {
	l := []api.Hash{}
	for i := range count {
		at := r.At()
		h := giveup.Must(r.Hash())
		if i > 0 && sha.Compare(l[i-1], h) >= 0 {
			giveup.At(api.ErrParents, at)
		}
		l = append(l, h)
	}
	return l
}
