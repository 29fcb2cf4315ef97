package op

import (
	"pleach/api"
	"pleach/pack"
)

// Put lays the form of operations, if they may be those of a transaction.
func Put(o *pack.Out, l []api.Op) api.Errno {
	if why, _ := Check(l); why != api.OK {
		return why
	}
	table := fieldTable()
	o.Number(uint64(len(l)))
	for _, x := range l {
		o.Byte(byte(x.Kind))
		for _, f := range table[x.Kind] {
			f.put(o, x)
		}
	}
	return api.OK
}

// Get reads the form of operations.
func Get(r *pack.In) ([]api.Op, error) {
	n, err := r.Number(api.MaxOps)
	if err != nil {
		return nil, err
	}
	table := fieldTable()
	l := []api.Op{}
	for range n {
		x, err := getOne(r, table, l)
		if err != nil {
			return nil, err
		}
		l = append(l, x)
	}
	return l, nil
}

// getOne reads the next operation behind those ahead.
func getOne(r *pack.In, table map[int][]field, ahead []api.Op) (api.Op, error) {
	begin := r.At()
	kind, err := r.Byte()
	if err != nil {
		return api.Op{}, err
	}
	x := api.Op{Kind: int(kind)}
	has, ok := table[x.Kind]
	if !ok {
		return api.Op{}, &api.Bad{Why: api.ErrKind, At: begin}
	}
	for _, f := range has {
		if err := f.get(r, &x, ahead); err != nil {
			return api.Op{}, err
		}
	}
	return x, nil
}
