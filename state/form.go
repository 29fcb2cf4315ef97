package state

import (
	"pleach/api"
	"pleach/counts"
	"pleach/orset"
	"pleach/pack"
	"pleach/past"
	"pleach/reg"
	"pleach/seq"
)

// form is what is done for a kind of cell.
type form struct {
	keys func(p *past.Past) []string
	lay  func(s source, key string) []byte
	read func(r *reader)
}

// forms tells what is done for each kind; no other kind may be.
func forms() map[int]form {
	return map[int]form{
		api.CellRegister: {keys: reg.Keys, lay: source.register, read: (*reader).register},
		api.CellSet:      {keys: orset.Keys, lay: source.set, read: (*reader).set},
		api.CellCounter:  {keys: counts.Keys, lay: source.counter, read: (*reader).counter},
		api.CellList:     {keys: seq.Keys, lay: source.list, read: (*reader).list},
	}
}

// source is a history out of which a key is read.
type source struct {
	p     *past.Past
	names map[api.Ident]api.Ident // the names by which its items are told; where it has none, their own
}

// register lays the Value of a register.
func (s source) register(key string) []byte { return layTexts(reg.Read(s.p, key)) }

// set lays the Value of a set.
func (s source) set(key string) []byte { return layTexts(orset.Members(s.p, key)) }

// counter lays the Value of a counter.
func (s source) counter(key string) []byte {
	o := pack.NewOut()
	o.Signed(counts.Value(s.p, key))
	return o.Done()
}

// list lays the Value of a list.
func (s source) list(key string) []byte {
	l := seq.Items(s.p, key)
	o := pack.NewOut()
	o.Number(uint64(len(l)))
	for _, x := range l {
		name := s.told(x.ID)
		o.Hash(name.Node)
		o.Number(uint64(name.Op))
		o.Text(x.Text)
	}
	return o.Done()
}

// told tells the name by which an item is told.
func (s source) told(name api.Ident) api.Ident {
	if other, is := s.names[name]; is {
		return other
	}
	return name
}

// layTexts lays how many texts there are, and they.
func layTexts(l []string) []byte {
	o := pack.NewOut()
	o.Number(uint64(len(l)))
	for _, text := range l {
		o.Text(text)
	}
	return o.Done()
}
