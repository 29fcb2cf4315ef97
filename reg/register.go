package reg

import (
	"slices"

	"pleach/api"
	"pleach/past"
)

// put is a text that was put, and the number of the transaction that did it.
type put struct {
	by   int
	text string
}

// register is what the operations of a key, done in the one order, have left so far.
type register struct {
	puts []put // those that none of the operations has seen, in the one order
	last int   // the number of the transaction whose operation was done last; 0, too, if none was: number 0 finds nothing of others there
}

// change does an operation of transaction number by. Whoever has seen a put stands behind it in the one order, so what is left behind the last operation is what nobody has seen.
func (r *register) change(p *past.Past, by int, o api.Op) {
	if r.last == by { // its first operation of this key has taken away what others put: its own put alone may be there still
		r.takeBack(by)
	} else {
		r.puts = slices.DeleteFunc(r.puts, func(x put) bool { return p.Sees(x.by, by) })
		r.last = by
	}
	if o.Kind == api.OpPut {
		r.puts = append(r.puts, put{by: by, text: o.Text})
	}
}

// takeBack takes away the last put, if it is this transaction's.
func (r *register) takeBack(by int) {
	if end := len(r.puts) - 1; end >= 0 && r.puts[end].by == by {
		r.puts = r.puts[:end]
	}
}

// texts tells what is left.
func (r *register) texts() []string {
	l := make([]string, 0, len(r.puts))
	for _, x := range r.puts {
		l = append(l, x.text)
	}
	return l
}
