package live_test

import (
	"testing"

	"pleach/api"
)

// wantLast fails, if behind a history another transaction, taken last, has changed something else.
func wantLast(t *testing.T, what string, l []api.Entry, x api.Entry, want ...api.Cell) {
	t.Helper()
	v := of(t, l...)
	wantTaken(t, what, v, l, x)
	wantCells(t, what+": Last", v.Last(), want...)
	for range 2 { // to ask changes nothing
		v.Cells()
		wantCells(t, what+": Last again", v.Last(), want...)
	}
}

// little is a history that shows something of each kind under k.
func little() []api.Entry {
	return entries(tx('m', "", put("k", "x"), add("k", "x"), incr("k", 3), ins("k", "x"), ins("l", "y"), del("l", self(5))))
}

// P24.3: operations that change nothing of what is shown: Last has nothing.
func TestNothingChanged(t *testing.T) {
	for what, ops := range map[string][]api.Op{
		"no operations":                     nil,
		"the same text over":                {put("k", "x")},
		"cleared and the same text":         {reset("k"), put("k", "y"), put("k", "x")},
		"another register cleared":          {reset("l"), reset("")},
		"put and cleared":                   {put("l", "y"), reset("l")},
		"added what is there":               {add("k", "x")},
		"wiped and added again":             {wipe("k"), add("k", "x")},
		"removed and added again":           {remove("k", "x"), add("k", "x")},
		"removed what isn't there":          {remove("k", "y"), remove("l", "x"), wipe("l")},
		"added and removed":                 {add("k", "y"), remove("k", "y")},
		"added and wiped":                   {add("l", "y"), add("l", "z"), wipe("l")},
		"counted nothing":                   {incr("k", 0), incr("l", 0)},
		"up and down":                       {incr("k", 5), incr("k", -5), incr("l", -1), incr("l", 1)},
		"zero and as much":                  {zero("k"), incr("k", 1), incr("k", 2)},
		"no counter's zero":                 {zero("l"), zero("")},
		"an insert that is no item":         {ins("k", "y", id('z', 1)), ins("k", "y", id('m', 5)), ins("k", "y", id('m', 2))},
		"a delete of no item":               {del("k", id('z', 1)), del("k", id('m', 5)), del("k", id('m', 1))},
		"a delete of one that is gone":      {del("l", id('m', 5))},
		"inserted and deleted":              {ins("k", "y"), del("k", self(1)), ins("l", "y", id('m', 5)), del("l", self(3))},
		"inserted and deleted, in between":  {ins("k", "y", id('m', 4)), ins("k", "z", self(1)), del("k", self(1)), del("k", self(2))},
		"all of them at once, in other ops": {put("k", "x"), add("k", "x"), incr("k", 0), ins("k", "y"), del("k", self(4))},
	} {
		wantLast(t, what, little(), behind(api.Hash{'n'}, little(), letters("m"), ops...))
	}
}

// P24.3: nothing has changed either, where a transaction has not seen what it would undo.
func TestNothingSeen(t *testing.T) {
	for _, h := range letters("az") {
		wantLast(t, "not seen", little(), behind(h, nil, nil, reset("k"), wipe("k"), remove("k", "x"), zero("k"), del("k", id('m', 4)), ins("k", "y", id('m', 4)), add("k", "x"), remove("k", "x"), add("k", "x"), incr("k", 2), zero("k")))
	}
}

// P24.3: each kind of cell comes, changes and goes.
func TestChanged(t *testing.T) {
	next := func(ops ...api.Op) api.Entry { return behind(api.Hash{'n'}, little(), letters("m"), ops...) }
	beside := func(h byte, ops ...api.Op) api.Entry { return behind(api.Hash{h}, nil, nil, ops...) }
	for _, x := range []struct {
		what string
		x    api.Entry
		want []api.Cell
	}{
		{"put", next(put("l", "")), []api.Cell{cell(1, "l", "01 00")}},
		{"put over", next(put("k", "y")), []api.Cell{cell(1, "k", "01 01 79")}},
		{"cleared", next(put("k", "y"), reset("k")), []api.Cell{cell(1, "k", "")}},
		{"put beside, ahead", beside('a', put("k", "x")), []api.Cell{cell(1, "k", "02 01 78 01 78")}},
		{"put beside, behind", beside('z', put("k", "y")), []api.Cell{cell(1, "k", "02 01 78 01 79")}},
		{"added", next(add("k", "w")), []api.Cell{cell(2, "k", "02 01 77 01 78")}},
		{"added and wiped", next(add("k", "w"), wipe("k")), []api.Cell{cell(2, "k", "")}},
		{"removed", next(remove("k", "x")), []api.Cell{cell(2, "k", "")}},
		{"one for another", next(remove("k", "x"), add("k", "y")), []api.Cell{cell(2, "k", "01 01 79")}},
		{"wiped and one for another", next(wipe("k"), add("k", "y")), []api.Cell{cell(2, "k", "01 01 79")}},
		{"a set that comes", beside('a', add("l", "")), []api.Cell{cell(2, "l", "01 00")}},
		{"counted", next(incr("k", -1)), []api.Cell{cell(3, "k", "04")}},
		{"counted down to nothing", next(incr("k", -3)), []api.Cell{cell(3, "k", "")}},
		{"zero", next(zero("k")), []api.Cell{cell(3, "k", "")}},
		{"zero and more", next(incr("k", 9), zero("k"), incr("k", -3)), []api.Cell{cell(3, "k", "05")}},
		{"a counter that comes", beside('z', incr("l", 1)), []api.Cell{cell(3, "l", "02")}},
		{"inserted", next(ins("k", "y", id('m', 4))), []api.Cell{items("k", item('m', 4, "x"), item('n', 1, "y"))}},
		{"deleted", next(del("k", id('m', 4))), []api.Cell{cell(4, "k", "")}},
		{"deleted and inserted", next(ins("k", "x", id('m', 4)), del("k", id('m', 4))), []api.Cell{items("k", item('n', 1, "x"))}},
		{"deleted, inserted, and deleted", next(ins("k", "x", id('m', 4)), del("k", id('m', 4)), del("k", self(1))), []api.Cell{cell(4, "k", "")}},
		{"inserted behind one that is gone", next(ins("l", "z", id('m', 5))), []api.Cell{items("l", item('n', 1, "z"))}},
		{"inserted beside, ahead", beside('a', ins("k", "y")), []api.Cell{items("k", item('m', 4, "x"), item('a', 1, "y"))}},
		{"inserted beside, behind", beside('z', ins("k", "y")), []api.Cell{items("k", item('z', 1, "y"), item('m', 4, "x"))}},
		{"all, in order", next(incr("l", 1), ins("k", "y"), put("k", "z"), add("k", "a"), put("", "e"), zero("k"), put("\xff", "f"), put("ka", "g"), del("k", id('m', 4))), []api.Cell{cell(1, "", "01 01 65"), cell(1, "k", "01 01 7a"), cell(1, "ka", "01 01 67"), cell(1, "\xff", "01 01 66"), cell(2, "k", "02 01 61 01 78"), cell(3, "k", ""), cell(3, "l", "02"), items("k", item('n', 2, "y"))}},
	} {
		wantLast(t, x.what, little(), x.x, x.want...)
	}
}

// P24.3: several texts become one of them, or fewer, or the same ones.
func TestSeveral(t *testing.T) {
	l := entries(tx('a', "", put("k", "x")), tx('b', "", put("k", "x")), tx('c', "", put("k", "y")))
	next := func(parents string, ops ...api.Op) api.Entry {
		return behind(api.Hash{'d'}, l, letters(parents), ops...)
	}
	wantLast(t, "one", l, next("abc", put("k", "x")), cell(1, "k", "01 01 78"))
	wantLast(t, "two", l, next("ab", put("k", "y")), cell(1, "k", "02 01 79 01 79"))
	wantLast(t, "the last one again", l, next("c", put("k", "y")))
	wantLast(t, "the first one moves behind", l, next("a", put("k", "x")), cell(1, "k", "03 01 78 01 79 01 78"))
	wantLast(t, "one less", l, next("b", reset("k")), cell(1, "k", "02 01 78 01 79"))
	wantLast(t, "none", l, next("abc", reset("k")), cell(1, "k", ""))
}

// P24.3: Last is that of the last Take that answered OK alone; one that is refused leaves it, one that changes nothing empties it.
func TestLastAlone(t *testing.T) {
	l := entries(tx('a', "", put("k", "1"), add("s", "x")), tx('b', "a", put("k", "2")), tx('c', "b"), tx('d', "c", reset("k"), wipe("s")), tx('e', "d", put("k", "2")))
	wants := [][]api.Cell{
		{cell(1, "k", "01 01 31"), cell(2, "s", "01 01 78")},
		{cell(1, "k", "01 01 32")},
		nil,
		{cell(1, "k", ""), cell(2, "s", "")},
		{cell(1, "k", "01 01 32")},
	}
	v := of(t)
	for i, x := range l {
		takes(t, v, x, api.OK)
		wantCells(t, "Last", v.Last(), wants[i]...)
		takes(t, v, x, api.ErrState)
		takes(t, v, raw(api.Hash{'z'}, 9, letters("y"), put("k", "9")), api.ErrAbsent)
		takes(t, v, raw(api.Hash{'z'}, 9, letters("a"), put("k", "9")), api.ErrClock)
		takes(t, v, raw(api.Hash{'z'}, 1, nil, put("k", "9"), api.Op{}), api.ErrKind)
		wantCells(t, "Last behind what was refused", v.Last(), wants[i]...)
	}
}
