package live_test

import (
	"fmt"
	"slices"
	"testing"

	"pleach/api"
	"pleach/live"
)

// P24.4: a copy has taken the same, and its Last is the same; so has a copy of a copy.
func TestCopy(t *testing.T) {
	l := base()
	for n := range len(l) + 1 {
		v := of(t, l[:n]...)
		was := pictureOf(v)
		for what, c := range map[string]*live.Live{"copy": v.Copy(), "copy of a copy": v.Copy().Copy()} {
			wantPicture(t, what, c, was)
			wantShown(t, what, c, l[:n])
			for _, x := range l[:n] {
				takes(t, c, x, api.ErrState)
			}
			if n < len(l) {
				wantTaken(t, what, c, l[:n], l[n])
			}
		}
		wantPicture(t, "the one that was copied", v, was)
	}
}

// P24.4: the one and its copy take unlike entries of one hash, of the same parents, and of what the other one has taken neither knows.
func TestCopyApart(t *testing.T) {
	l := base()
	v := of(t, l...)
	c, third := v.Copy(), v.Copy()
	was := pictureOf(v)
	one := behind(api.Hash{'Z'}, l, letters("d"), put("k", "one"), remove("k", "b"), zero("k"), ins("k", "one", id('a', 4)))
	other := behind(api.Hash{'Z'}, l, letters("c"), put("k", "other"), add("k", "c"), incr("k", 100), ins("k", "other", id('c', 4)), del("k", id('c', 4)))
	wantTaken(t, "the one", v, l, one)
	wantTaken(t, "the copy", c, l, other)
	wantPicture(t, "the third one", third, was)
	wantShown(t, "the one", v, append(base(), one))
	behindOne := behind(api.Hash{'A'}, append(base(), one), letters("Z"), put("k", "more"), ins("k", "more", api.Ident{Node: api.Hash{'Z'}, Op: 4}))
	takes(t, c, behindOne, api.ErrClock) // Z's clock is another one there
	takes(t, third, behindOne, api.ErrAbsent)
	wantTaken(t, "the one, behind", v, append(base(), one), behindOne)
	takes(t, c, one, api.ErrState)
	wantTaken(t, "the third one", third, l, other)
	wantShown(t, "the copy", c, append(base(), other))
}

// P24.4: whatever the one takes next, in the middle of what is there, at its end, or in place of it, the copy shows what it showed, and the other way round: for each kind, and with room behind its lists or not.
func TestCopyStays(t *testing.T) {
	for name, next := range map[string]func(i int) []api.Op{
		"register": func(i int) []api.Op { return []api.Op{put("k", fmt.Sprint(i))} },
		"cleared":  func(i int) []api.Op { return []api.Op{put(fmt.Sprint(i%2), fmt.Sprint(i)), reset(fmt.Sprint(1 - i%2))} },
		"set": func(i int) []api.Op {
			return []api.Op{add("k", "x"), add("k", fmt.Sprint(i)), remove("k", fmt.Sprint(i-1))}
		},
		"counter": func(i int) []api.Op { return []api.Op{incr("k", int64(i))} },
		"zero":    func(i int) []api.Op { return []api.Op{incr("k", 1), zero(fmt.Sprint(i % 2)), incr("k", int64(i))} },
		"list":    func(i int) []api.Op { return []api.Op{ins("k", fmt.Sprint(i))} },
		"rows":    func(i int) []api.Op { return []api.Op{ins("k", fmt.Sprint(i)), ins("k", "y"), ins("k", "x", self(1))} },
	} {
		for _, parents := range [][]api.Hash{nil, {number(0)}} {
			v, l := of(t), []api.Entry{behind(number(0), nil, nil, next(0)...)}
			takes(t, v, l[0], api.OK)
			for _, i := range []int{5, 3, 8, 6, 7, 4, 1, 2, 9} {
				one := behind(number(i), l, parents, next(i)...)
				other := behind(number(i), l, []api.Hash{l[len(l)-1].ID}, next(i+1)...)
				c, was := v.Copy(), pictureOf(v)
				wantTaken(t, name, v, l, one)
				wantPicture(t, name+": the copy", c, was)
				then := pictureOf(v)
				wantTaken(t, name+": the copy", c, l, other)
				wantPicture(t, name+": the one", v, then)
				wantUndone(t, name+": the copy", c, append(slices.Clone(l), other))
				l = append(l, one)
				wantUndone(t, name+": the one", v, l)
			}
		}
	}
}

// wantUndone fails, if something else is left of what was taken, when one undoes all that it has seen: each single one and what that has seen, tried with a copy each.
func wantUndone(t *testing.T, what string, v *live.Live, taken []api.Entry) {
	t.Helper()
	for _, x := range taken {
		undo := []api.Op{put("k", "undone"), reset("0"), reset("1"), wipe("k"), zero("k"), zero("0"), zero("1")}
		for i, o := range x.Node.Ops {
			if o.Kind == api.OpInsert {
				undo = append(undo, del("k", api.Ident{Node: x.ID, Op: i + 1}), ins("k", "undone", api.Ident{Node: x.ID, Op: i + 1}))
			}
		}
		wantTaken(t, what+", undone", v.Copy(), taken, behind(number(99), taken, []api.Hash{x.ID}, undo...))
	}
}
