package node

import (
	"pleach/api"
	"pleach/op"
	"pleach/pack"
	"pleach/sha"
)

// wrong is what reading is given up with.
type wrong struct{ err error }

// Decode tells the transaction whose block bytes are.
func Decode(b []byte) (n api.Node, err error) {
	if len(b) > api.MaxNode {
		return api.Node{}, &api.Bad{Why: api.ErrBytes, At: api.MaxNode}
	}
	defer func() {
		if x := recover(); x != nil {
			n, err = api.Node{}, caught(x)
		}
	}()
	return readBlock(pack.NewIn(b)), nil
}

// caught tells with which error reading was given up; whatever else was thrown is a fault of the program, and goes on.
func caught(x any) error {
	if w, ok := x.(wrong); ok {
		return w.err
	}
	panic(x)
}

// giveUp ends the reading of a block, from however deep inside.
func giveUp(err error) { panic(wrong{err}) }

// must tells what was read, or gives up.
func must[T any](x T, err error) T {
	if err != nil {
		giveUp(err)
	}
	return x
}

// readBlock reads a block and nothing behind it.
func readBlock(r *pack.In) api.Node {
	readForm(r)
	n := api.Node{Author: readAuthor(r)}
	clockAt := r.At()
	n.Clock = readClock(r)
	count := int(must(r.Number(api.MaxParents)))
	if !clockFits(n.Clock, count) {
		giveUp(&api.Bad{Why: api.ErrClock, At: clockAt})
	}
	n.Parents = readParents(r, count)
	n.Ops = must(op.Get(r))
	if err := r.End(); err != nil {
		giveUp(err)
	}
	return n
}

func readForm(r *pack.In) {
	at := r.At()
	if must(r.Byte()) != form {
		giveUp(&api.Bad{Why: api.ErrForm, At: at})
	}
}

func readAuthor(r *pack.In) int {
	at := r.At()
	author := int(must(r.Byte()))
	if !isAuthor(author) {
		giveUp(&api.Bad{Why: api.ErrAuthor, At: at})
	}
	return author
}

func readClock(r *pack.In) int {
	at := r.At()
	clock := int(must(r.Number(api.MaxNodes)))
	if clock == 0 {
		giveUp(&api.Bad{Why: api.ErrClock, At: at})
	}
	return clock
}

// readParents reads so many hashes, each behind the one ahead.
func readParents(r *pack.In, count int) []api.Hash {
	l := []api.Hash{}
	for i := range count {
		at := r.At()
		h := must(r.Hash())
		if i > 0 && sha.Compare(l[i-1], h) >= 0 {
			giveUp(&api.Bad{Why: api.ErrParents, At: at})
		}
		l = append(l, h)
	}
	return l
}
