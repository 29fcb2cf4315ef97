package op

import (
	"pleach/api"
	"pleach/pack"
)

// field is what is done with a field of an operation.
type field struct {
	wipe func(x *api.Op)
	put  func(o *pack.Out, x api.Op)
	get  func(r *pack.In, x *api.Op, ahead []api.Op) error // ahead are the operations that were read ahead of x
}

// fieldTable tells which fields each kind has, in the order in which they are laid; no other kind may be.
func fieldTable() map[int][]field {
	key, text, number, place := keyField(), textField(), numberField(), placeField()
	return map[int][]field{
		api.OpPut:    {key, text},
		api.OpClear:  {key},
		api.OpAdd:    {key, text},
		api.OpRemove: {key, text},
		api.OpWipe:   {key},
		api.OpIncr:   {key, number},
		api.OpZero:   {key},
		api.OpInsert: {key, text, place},
		api.OpDelete: {key, place},
	}
}

func keyField() field {
	return field{
		wipe: func(x *api.Op) { x.Key = "" },
		put:  func(o *pack.Out, x api.Op) { o.Text(x.Key) },
		get: func(r *pack.In, x *api.Op, _ []api.Op) error {
			key, err := r.Text(api.MaxKey)
			x.Key = key
			return err
		},
	}
}

func textField() field {
	return field{
		wipe: func(x *api.Op) { x.Text = "" },
		put:  func(o *pack.Out, x api.Op) { o.Text(x.Text) },
		get: func(r *pack.In, x *api.Op, _ []api.Op) error {
			text, err := r.Text(api.MaxText)
			x.Text = text
			return err
		},
	}
}

func numberField() field {
	return field{
		wipe: func(x *api.Op) { x.N = 0 },
		put:  func(o *pack.Out, x api.Op) { o.Signed(x.N) },
		get: func(r *pack.In, x *api.Op, _ []api.Op) error {
			n, err := r.Signed()
			x.N = n
			return err
		},
	}
}

func placeField() field {
	return field{
		wipe: func(x *api.Op) { x.At = api.Ident{} },
		put:  putPlace,
		get:  getPlace,
	}
}

// putPlace lays an At; the beginning needs no Node.
func putPlace(o *pack.Out, x api.Op) {
	o.Number(uint64(x.At.Op))
	if x.At.Op != 0 {
		o.Hash(x.At.Node)
	}
}

// getPlace reads an At, and asks whether it may be.
func getPlace(r *pack.In, x *api.Op, ahead []api.Op) error {
	begin := r.At()
	n, err := r.Number(api.MaxOps)
	if err != nil {
		return err
	}
	x.At.Op = int(n)
	if n != 0 {
		node, err := r.Hash()
		if err != nil {
			return err
		}
		x.At.Node = node
	}
	if !mayStandAt(*x, ahead) {
		return &api.Bad{Why: api.ErrAt, At: begin}
	}
	return nil
}
