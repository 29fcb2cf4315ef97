package state

import (
	"pleach/api"
	"pleach/giveup"
	"pleach/pack"
)

// most is how many texts or items a cell may have: no history has more operations.
const most = api.MaxNodes * api.MaxOps

// reader is what was read of a Value so far. It gives up at what is wrong.
type reader struct {
	in    *pack.In
	texts []string
	n     int64
	items []api.Item
}

// Read tells what a cell says.
func Read(c api.Cell) (texts []string, n int64, items []api.Item, err error) {
	f, is := forms()[c.Kind]
	if !is {
		return nil, 0, nil, api.ErrKind
	}
	defer func() {
		if x := recover(); x != nil {
			texts, n, items, err = nil, 0, nil, giveup.Caught(x)
		}
	}()
	r := &reader{in: pack.NewIn(c.Value)}
	f.read(r)
	if err := r.in.End(); err != nil {
		giveup.With(err)
	}
	return r.texts, r.n, r.items, nil
}

func (r *reader) register() {
	for range r.count() {
		r.text()
	}
}

func (r *reader) set() {
	for i := range r.count() {
		at := r.in.At()
		r.text()
		if i > 0 && r.texts[i] <= r.texts[i-1] {
			giveup.At(api.ErrOrder, at)
		}
	}
}

func (r *reader) counter() {
	r.n = giveup.Must(r.in.Signed())
	if r.n == 0 {
		giveup.At(api.ErrField, 0)
	}
}

func (r *reader) list() {
	for range r.count() {
		var x api.Item
		x.ID.Node = giveup.Must(r.in.Hash())
		x.ID.Op = r.op()
		x.Text = giveup.Must(r.in.Text(api.MaxText))
		r.items = append(r.items, x)
	}
}

// count reads how many texts or items there are.
func (r *reader) count() int {
	n := giveup.Must(r.in.Number(most))
	if n == 0 {
		giveup.At(api.ErrField, 0)
	}
	return int(n)
}

// text reads the next text.
func (r *reader) text() {
	r.texts = append(r.texts, giveup.Must(r.in.Text(api.MaxText)))
}

// op reads the number of an item's operation.
func (r *reader) op() int {
	at := r.in.At()
	n := giveup.Must(r.in.Number(api.MaxOps))
	if n == 0 {
		giveup.At(api.ErrField, at)
	}
	return int(n)
}
