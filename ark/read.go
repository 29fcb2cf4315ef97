package ark

import (
	"errors"

	"pleach/api"
	"pleach/giveup"
	"pleach/node"
	"pleach/pack"
	"pleach/sha"
)

// part is a block of an ark, and what the graph knows of it.
type part struct {
	begin  int // its first byte in the ark
	block  []byte
	vertex api.Vertex
}

// readArk reads an ark and nothing behind it, in whatever order its blocks stand.
func readArk(b []byte) []part {
	r := pack.NewIn(b)
	readMark(r)
	l := []part{}
	for range giveup.Must(r.Number(api.MaxNodes)) {
		l = append(l, readPart(r))
	}
	readSum(r, b)
	if err := r.End(); err != nil {
		giveup.With(err)
	}
	return l
}

func readMark(r *pack.In) {
	begin := r.At()
	if string(giveup.Must(r.Raw(len(mark)))) != mark {
		giveup.At(api.ErrForm, begin)
	}
}

func readPart(r *pack.In) part {
	b := giveup.Must(r.Bytes(api.MaxNode))
	begin := r.At() - len(b)
	x, err := node.Entry(b)
	if err != nil {
		giveup.With(inArk(err, begin))
	}
	return part{begin: begin, block: b, vertex: node.Vertex(x)}
}

// readSum reads the sum of all that stands ahead of it in an ark.
func readSum(r *pack.In, ark []byte) {
	begin := r.At()
	if giveup.Must(r.Hash()) != sha.Of(ark[:begin]) {
		giveup.At(api.ErrSum, begin)
	}
}

// inArk tells what is wrong with a block at its place in the ark: layer 5 counts from the block's first byte on.
func inArk(err error, begin int) error {
	var bad *api.Bad
	if !errors.As(err, &bad) {
		return err
	}
	return &api.Bad{Why: bad.Why, At: begin + bad.At}
}
