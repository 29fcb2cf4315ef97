package live

import (
	"slices"
	"sort"

	"pleach/api"
	"pleach/pack"
)

// put is a text that was put, and the number of the entry that did it.
type put struct {
	by   int
	text string
}

// register is the puts that no operation has seen, in the one order. The list is never changed, but another one takes its place.
type register struct{ puts []put }

// take does operations. Each of them has seen those ahead of it, so of what they put the last one alone may be left.
func (r *register) take(g *graph, l []deed) bool {
	left := make([]put, 0, len(r.puts)+1)
	for _, x := range r.puts {
		if !g.knows(x.by) {
			left = append(left, x)
		}
	}
	if last := l[len(l)-1]; last.Kind == api.OpPut {
		at := sort.Search(len(left), func(i int) bool { return g.later(left[i].by) })
		left = slices.Insert(left, at, put{by: g.newest(), text: last.Text})
	}
	same := slices.EqualFunc(r.puts, left, func(a, b put) bool { return a.text == b.text })
	r.puts = left
	return !same
}

// texts tells what is left.
func (r *register) texts() []string {
	l := make([]string, 0, len(r.puts))
	for _, x := range r.puts {
		l = append(l, x.text)
	}
	return l
}

func (r *register) stands() bool { return !r.empty() }

func (r *register) empty() bool { return len(r.puts) == 0 }

func (r *register) lay(o *pack.Out) { layTexts(o, r.texts()) }

func (r *register) copy() part { return &register{puts: r.puts} }
