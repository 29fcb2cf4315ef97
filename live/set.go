package live

import (
	"maps"
	"slices"

	"pleach/api"
	"pleach/pack"
)

// set is the texts that a set has, each with the numbers of the entries whose adds of it nothing has undone. Of two of these that have seen one another the later one is enough: whatever undoes its add has seen the other one's, too.
type set struct{ adds map[string][]int }

func newSet() *set { return &set{adds: map[string][]int{}} }

// take does operations.
func (s *set) take(g *graph, l []deed) bool {
	changed := false
	for text, kind := range s.lastWords(l) {
		was := len(s.adds[text]) > 0
		left := slices.DeleteFunc(s.adds[text], g.knows)
		if kind == api.OpAdd {
			left = append(left, g.newest())
		}
		is := len(left) > 0
		if is {
			s.adds[text] = left
		} else {
			delete(s.adds, text)
		}
		changed = changed || is != was
	}
	return changed
}

// lastWords tells of each text of which operations speak the kind of the one that does so last. A wipe speaks of all that are there; what stands ahead of it leaves nothing.
func (s *set) lastWords(l []deed) map[string]int {
	kinds := map[string]int{}
	say := func(text string, kind int) {
		if _, said := kinds[text]; !said {
			kinds[text] = kind
		}
	}
	for _, d := range slices.Backward(l) {
		if d.Kind == api.OpWipe {
			for text := range s.adds {
				say(text, d.Kind)
			}
			break
		}
		say(d.Text, d.Kind)
	}
	return kinds
}

func (s *set) stands() bool { return !s.empty() }

func (s *set) empty() bool { return len(s.adds) == 0 }

func (s *set) lay(o *pack.Out) { layTexts(o, slices.Sorted(maps.Keys(s.adds))) }

func (s *set) copy() part {
	c := newSet()
	for text, l := range s.adds {
		c.adds[text] = slices.Clone(l)
	}
	return c
}
