package seq_test

import (
	"maps"
	"slices"
	"strings"
	"testing"

	"pleach/api"
	"pleach/past"
	"pleach/seq"
)

// id names an operation of a transaction, own one of the transaction itself.
func id(name byte, n int) api.Ident { return api.Ident{Node: api.Hash{name}, Op: n} }

func own(n int) api.Ident { return api.Ident{Op: n} }

// ins and del tell operations of the list "k"; without an At an item is laid at the beginning.
func ins(text string, at ...api.Ident) api.Op {
	o := api.Op{Kind: api.OpInsert, Key: "k", Text: text}
	if len(at) > 0 {
		o.At = at[0]
	}
	return o
}

func del(at api.Ident) api.Op { return api.Op{Kind: api.OpDelete, Key: "k", At: at} }

// under tells an operation of another key.
func under(key string, o api.Op) api.Op {
	o.Key = key
	return o
}

// one is a transaction: a letter, which is its hash; those of its parents; what it does.
type one struct {
	name    byte
	parents string
	ops     []api.Op
}

func tx(name byte, parents string, ops ...api.Op) one { return one{name, parents, ops} }

// letters tells hashes.
func letters(s string) []api.Hash {
	l := []api.Hash{}
	for _, name := range []byte(s) {
		l = append(l, api.Hash{name})
	}
	return l
}

// entries tells transactions, parents ahead, as entries.
func entries(all []one) []api.Entry {
	l := []api.Entry{}
	for _, x := range all {
		l = append(l, behind(api.Hash{x.name}, l, letters(x.parents), x.ops...))
	}
	return l
}

// of tells the history of entries.
func of(t *testing.T, l []api.Entry) *past.Past {
	t.Helper()
	p, e, at := past.Of(l)
	if e != api.OK {
		t.Fatalf("Of(%s): %d, %d", showAll(l), e, at)
	}
	return p
}

// history tells that of transactions.
func history(t *testing.T, all ...one) *past.Past {
	t.Helper()
	return of(t, entries(all))
}

// at tells a history at heads.
func at(t *testing.T, p *past.Past, heads []api.Hash) *past.Past {
	t.Helper()
	q, e := p.At(heads)
	if e != api.OK {
		t.Fatalf("At(%x): %d", heads, e)
	}
	return q
}

// texts tells the texts of items, one behind the other.
func texts(l []api.Item) string {
	s := []string{}
	for _, x := range l {
		s = append(s, x.Text)
	}
	return strings.Join(s, "")
}

// wantTexts fails, if the texts of a list are others, or if its items have other names than those of the inserts of these texts.
func wantTexts(t *testing.T, what string, p *past.Past, key, shown, all string) {
	t.Helper()
	for want, l := range map[string][]api.Item{"Items: " + shown: seq.Items(p, key), "All: " + all: seq.All(p, key)} {
		if call, _, _ := strings.Cut(want, " "); call+" "+texts(l) != want {
			t.Errorf("%s: list %q: %s; want %s", what, key, showItems(l), want)
		}
		for _, x := range l {
			y, e := p.Entry(p.Number(x.ID.Node))
			if e != api.OK || x.ID.Op < 1 || x.ID.Op > len(y.Node.Ops) {
				t.Errorf("%s: a name that is none's: %s", what, showItems([]api.Item{x}))
			} else if o := y.Node.Ops[x.ID.Op-1]; o.Kind != api.OpInsert || o.Key != key || o.Text != x.Text {
				t.Errorf("%s: another one's name: %s", what, showItems([]api.Item{x}))
			}
		}
	}
}

// wantOnly fails, if the list "k" has other texts, or if another list has some.
func wantOnly(t *testing.T, what string, p *past.Past, shown, all string) {
	t.Helper()
	wantTexts(t, what, p, "k", shown, all)
	want := []string{}
	if shown != "" {
		want = append(want, "k")
	}
	wantKeys(t, what, p, want...)
}

// wantKeys fails, if other lists show something.
func wantKeys(t *testing.T, what string, p *past.Past, want ...string) {
	t.Helper()
	if got := seq.Keys(p); !slices.Equal(got, want) {
		t.Errorf("%s: Keys: %q; want %q", what, got, want)
	}
}

// wantBehind fails, if items of other texts were laid behind one.
func wantBehind(t *testing.T, what string, p *past.Past, key string, at api.Ident, want string) {
	t.Helper()
	if l, e := seq.Behind(p, key, at); texts(l) != want || e != api.OK {
		t.Errorf("%s: Behind(%q, %x:%d): %s, %d; want %q", what, key, at.Node[:3], at.Op, showItems(l), e, want)
	}
}

// wantErrAt fails, if names are told to be an item's.
func wantErrAt(t *testing.T, what string, p *past.Past, key string, l ...api.Ident) {
	t.Helper()
	for _, at := range l {
		if got, e := seq.Behind(p, key, at); len(got) != 0 || e != api.ErrAt {
			t.Errorf("%s: Behind(%q, %x:%d): %s, %d", what, key, at.Node[:3], at.Op, showItems(got), e)
		}
	}
}

// odd are names that are no item's in any history of the tests.
func odd() []api.Ident {
	l := []api.Ident{{Op: 1}, {Op: 2}, {Op: -1}, {Op: api.MaxOps}}
	for _, n := range []int{-1 << 63, -1, 0, 1, 1<<63 - 1} {
		l = append(l, api.Ident{Node: number(9999), Op: n})
	}
	return l
}

// P17.1: the chapter's examples.
func TestExamples(t *testing.T) {
	x := tx('a', "", ins("x"))
	wantOnly(t, "1", history(t, tx('a', "", ins("x"), ins("y", own(1)))), "xy", "xy")
	wantOnly(t, "2", history(t, tx('a', "", ins("x"), ins("y"))), "yx", "yx")
	wantOnly(t, "3", history(t, tx('a', "", ins("x"), ins("z", own(1)), ins("y", own(1)))), "xyz", "xyz")
	four := []one{x, tx('b', "a", ins("y", id('a', 1))), tx('c', "a", ins("z", id('a', 1)))}
	wantOnly(t, "4", history(t, four...), "xzy", "xzy")
	wantOnly(t, "5", history(t, append(four, tx('e', "bc", ins("w", id('b', 1))))...), "xzyw", "xzyw")
	wantOnly(t, "6", history(t, x, tx('b', "a", ins("y", id('a', 1)), del(id('a', 1)))), "y", "xy")
	wantOnly(t, "7", history(t, x, tx('b', "", del(id('a', 1)), ins("q", id('a', 1)))), "x", "x")
	wantOnly(t, "8", history(t, x, tx('b', "a", del(id('a', 1))), tx('c', "a", ins("y", id('a', 1)))), "y", "xy")
}

// P17.2: the chapter's examples of Behind.
func TestExamplesBehind(t *testing.T) {
	p := history(t, tx('a', "", ins("x")), tx('b', "a", ins("y", id('a', 1))), tx('c', "a", ins("z", id('a', 1))))
	wantBehind(t, "the beginning", p, "k", api.Ident{}, "x")
	wantBehind(t, "ax", p, "k", id('a', 1), "zy")
	wantErrAt(t, "none's", p, "k", append(odd(), id('q', 1))...)
}

// P17.1, P17.3: the sixth of the document's examples of the whole: two insert behind one item at one time; they stay where they stand, whatever comes.
func TestAtOneTimeInserted(t *testing.T) {
	both := []one{tx('m', "", ins("x"), ins("y", own(1))), tx('n', "m", ins("p", id('m', 1))), tx('o', "m", ins("q", id('m', 1)))}
	wantOnly(t, "p ahead of q in the one order", history(t, both...), "xqpy", "xqpy")
	other := []one{both[0], tx('o', "m", ins("p", id('m', 1))), tx('n', "m", ins("q", id('m', 1)))}
	wantOnly(t, "q ahead of p in the one order", history(t, other...), "xpqy", "xpqy")
	wantOnly(t, "one more, ahead in the one order", history(t, append(both, tx('a', "m", ins("r", id('m', 1))))...), "xqpry", "xqpry")
	wantOnly(t, "one more, behind in the one order", history(t, append(both, tx('z', "m", ins("r", id('m', 1))))...), "xrqpy", "xrqpy")
	for _, name := range []byte("az") { // wherever its hash puts it
		wantOnly(t, "behind p", history(t, append(both, tx(name, "n", ins("r", id('n', 1))))...), "xqpry", "xqpry")
		wantOnly(t, "behind y", history(t, append(both, tx(name, "m", ins("r", id('m', 2))))...), "xqpyr", "xqpyr")
		wantOnly(t, "x gone", history(t, append(both, tx(name, "m", del(id('m', 1))))...), "qpy", "xqpy")
	}
}

// P17.1, P17.2: a history of nothing, and one whose transactions do nothing: no list has an item.
func TestNothing(t *testing.T) {
	for _, p := range []*past.Past{history(t), history(t, tx('a', ""), tx('b', "a"), tx('c', ""))} {
		for _, key := range append(names(), "none") {
			wantTexts(t, "nothing", p, key, "", "")
			wantBehind(t, "nothing", p, key, api.Ident{}, "")
			wantErrAt(t, "nothing", p, key, append(odd(), id('a', 1), id('a', 0))...)
		}
		wantKeys(t, "nothing", p)
	}
}

// P17.1, P17.2: a key that nobody has inserted under has no items: a part of one that has, too, and one that is longer than it may be.
func TestNobodyInserted(t *testing.T) {
	long := strings.Repeat("k", api.MaxKey)
	p := history(t, tx('a', "", under("key", ins("x")), under(long, ins("y")), under("deleted", del(id('a', 1)))), tx('b', "a", under("ke", del(id('a', 1))), under("ke", ins("q", id('a', 1)))))
	for _, key := range []string{"", "k", "ke", "ey", "key ", "key\x00", "Key", "deleted", "\xff", long + "k", long[1:]} {
		wantTexts(t, "nobody has inserted", p, key, "", "")
		wantBehind(t, "nobody has inserted", p, key, api.Ident{}, "")
		wantErrAt(t, "nobody has inserted", p, key, id('a', 1), id('a', 2), id('b', 2))
	}
	wantTexts(t, "inserted", p, "key", "x", "x")
	wantTexts(t, "inserted", p, long, "y", "y")
	wantKeys(t, "inserted", p, "key", long)
}

// P17.1: several inserts behind one item, or at the beginning, in one transaction: the later ones are first, each followed by what stands behind it.
func TestSeveralInOne(t *testing.T) {
	for _, x := range []struct {
		ops  []api.Op
		want string
	}{
		{[]api.Op{ins("x"), ins("y"), ins("z")}, "zyx"},
		{[]api.Op{ins("x"), ins("y", own(1)), ins("z", own(2))}, "xyz"},
		{[]api.Op{ins("x"), ins("y", own(1)), ins("z", own(1)), ins("w", own(1))}, "xwzy"},
		{[]api.Op{ins("x"), ins("y"), ins("z", own(1)), ins("w", own(2))}, "ywxz"},
		{[]api.Op{ins("x"), ins("y", own(1)), ins("z", own(1)), ins("w", own(2)), ins("v", own(3)), ins("u", own(2))}, "xzvyuw"},
		{[]api.Op{ins("x"), ins("y", own(1)), ins("z", own(2)), ins("w", own(1)), ins("v", own(3))}, "xwyzv"},
		{[]api.Op{ins("x"), ins("x"), ins("x", own(1)), ins("", own(1)), ins("x", own(4))}, "xxxx"},
	} {
		p := history(t, tx('a', "", x.ops...))
		wantOnly(t, "alone", p, x.want, x.want)
		p = history(t, tx('b', "", ins("1")), tx('c', "b", ins("2", id('b', 1))), tx('a', "b", x.ops...))
		wantOnly(t, "behind another one", p, x.want+"12", x.want+"12")
	}
}

// P17.1, P17.2: several inserts behind one item, in transactions that have seen one another and in such as have not: those later in the one order first.
func TestSeveralBehindOne(t *testing.T) {
	x := tx('m', "", ins("x"), ins("y", own(1)))
	at := id('m', 1)
	for _, c := range []struct {
		what         string
		l            []one
		want, behind string
	}{
		{"in a row", []one{tx('c', "m", ins("1", at)), tx('b', "c", ins("2", at)), tx('a', "b", ins("3", at))}, "321y", "321y"},
		{"apart", []one{tx('c', "m", ins("1", at)), tx('b', "m", ins("2", at)), tx('a', "m", ins("3", at))}, "123y", "123y"},
		{"apart, two each", []one{tx('a', "m", ins("1", at), ins("2", at)), tx('b', "m", ins("3", at), ins("4", at))}, "4321y", "4321y"},
		{"apart, a chain each", []one{tx('a', "m", ins("1", at), ins("2", own(1))), tx('b', "m", ins("3", at), ins("4", own(1)))}, "3412y", "31y"},
		{"joined", []one{tx('a', "m", ins("1", at)), tx('n', "m", ins("2", at)), tx('b', "an", ins("3", at), ins("4", id('a', 1)))}, "3214y", "321y"},
		{"one has seen another one", []one{tx('z', "m", ins("1", at)), tx('a', "z", ins("2", at)), tx('o', "m", ins("3", at))}, "213y", "213y"},
	} {
		p := history(t, append([]one{x}, c.l...)...)
		wantOnly(t, c.what, p, "x"+c.want, "x"+c.want)
		wantBehind(t, c.what, p, "k", at, c.behind)
	}
}

// P17.1, P17.2: several lay at the beginning, without having seen one another: the later one's are first.
func TestSeveralAtTheBeginning(t *testing.T) {
	row := []one{tx('a', "", ins("1"), ins("2", own(1))), tx('b', "", ins("3"), ins("4")), tx('c', "", ins("5"))}
	wantOnly(t, "apart", history(t, row...), "54312", "54312")
	wantBehind(t, "apart", history(t, row...), "k", api.Ident{}, "5431")
	wantOnly(t, "and one that has seen them", history(t, append(row, tx('A', "abc", ins("6")))...), "654312", "654312")
	wantOnly(t, "and one that has seen one", history(t, append(row, tx('A', "a", ins("6")))...), "543612", "543612")
}

// nowhere are Ats of an operation number 3 of transaction b, which has a as its parent, that name no item of "k" that it has seen.
func nowhere() map[string]api.Ident {
	return map[string]api.Ident{
		"a put":                              id('a', 2),
		"an insert of another key":           id('a', 3),
		"a delete":                           id('a', 4),
		"an insert that is no item":          id('a', 5),
		"behind one that is no item":         id('a', 6),
		"a number that isn't there":          id('a', 7),
		"the last number":                    id('a', api.MaxOps),
		"a transaction that isn't there":     id('q', 1),
		"one that it hasn't seen":            id('u', 1),
		"one that has seen it":               id('w', 1),
		"its own operation":                  id('b', 3),
		"a later one of its own":             id('b', 4),
		"another kind of its own":            id('b', 1),
		"another key of its own":             id('b', 2),
		"no number of its own":               id('b', 9),
		"a hash that is almost an item's":    {Node: api.Hash{'a', 31: 1}, Op: 1},
		"another kind of one it hasn't seen": id('v', 1),
		"one behind one that it hasn't seen": id('u', 2),
	}
}

// around tells a history in which an operation stands as number 3 of the transaction b.
func around(o api.Op) []one {
	return []one{
		tx('a', "", ins("x"), api.Op{Kind: api.OpPut, Key: "k", Text: "x"}, under("l", ins("l")), del(own(1)), ins("no", id('q', 1)), ins("no", own(5))),
		tx('b', "a", api.Op{Kind: api.OpAdd, Key: "k", Text: "x"}, under("kk", ins("m")), o, ins("y")),
		tx('u', "a", ins("u"), ins("v", own(1))),
		tx('v', "a", api.Op{Kind: api.OpZero, Key: "k"}),
		tx('w', "b", ins("w")),
	}
}

// P17.1, P17.2: an insert whose At names no item of its list that it has seen is none: it has no effect, nor has anything behind it, even by those who have seen it.
func TestNoItem(t *testing.T) {
	for what, to := range nowhere() {
		l := around(ins("no", to))
		wantTexts(t, what, history(t, l...), "k", "wuvy", "wuvyx")
		l = append(l, tx('z', "uvw", ins("n", id('b', 3)), del(id('b', 3)), ins("z", id('b', 4))))
		p := history(t, l...)
		wantTexts(t, what+", and behind it", p, "k", "wuvyz", "wuvyzx")
		wantErrAt(t, what, p, "k", id('b', 3), id('z', 1), id('z', 2), id('a', 2), id('a', 3), id('a', 5), id('a', 6), id('a', 7), id('b', 1), id('b', 2))
		wantBehind(t, what, p, "k", id('b', 4), "z")
		wantTexts(t, what, p, "l", "l", "l")
		wantTexts(t, what, p, "kk", "m", "m")
		wantKeys(t, what, p, "k", "kk", "l")
	}
}

// P17.1: a delete whose At names no item of its list that it has seen deletes nothing.
func TestDeletesNothing(t *testing.T) {
	for what, to := range nowhere() {
		p := history(t, around(del(to))...)
		wantTexts(t, what, p, "k", "wuvy", "wuvyx")
		wantTexts(t, what, p, "l", "l", "l")
		wantTexts(t, what, p, "kk", "m", "m")
		wantKeys(t, what, p, "k", "kk", "l")
	}
}

// P17.1: an At may name an operation of its own transaction by that one's hash, too: it has seen those of lesser numbers.
func TestOwnByHash(t *testing.T) {
	wantOnly(t, "behind an earlier one", history(t, tx('a', "", ins("x"), ins("y"), ins("z", id('a', 1)))), "yxz", "yxz")
	wantOnly(t, "behind its own", history(t, tx('a', "", ins("x"), ins("y", id('a', 2)))), "x", "x")
	wantOnly(t, "behind a later one", history(t, tx('a', "", ins("y", id('a', 2)), ins("x"))), "x", "x")
	wantOnly(t, "in a ring", history(t, tx('a', "", ins("y", id('a', 2)), ins("x", id('a', 1)))), "", "")
	wantOnly(t, "an earlier one deleted", history(t, tx('a', "", ins("x"), ins("y"), del(id('a', 1)))), "y", "yx")
	wantOnly(t, "a later one deleted", history(t, tx('a', "", ins("x"), del(id('a', 3)), ins("y"))), "yx", "yx")
}

// P17.1: two that name one another's items, of which one at most has seen the other one.
func TestNamedByEachOther(t *testing.T) {
	wantOnly(t, "neither has seen the other one", history(t, tx('a', "", ins("x", id('b', 1))), tx('b', "", ins("y", id('a', 1)))), "", "")
	wantOnly(t, "one has seen the other one, which is none", history(t, tx('a', "", ins("x", id('b', 1))), tx('b', "a", ins("y", id('a', 1)))), "", "")
	wantOnly(t, "deletes and inserts", history(t, tx('a', "", ins("x"), del(id('b', 1))), tx('b', "a", ins("y", id('a', 1)))), "xy", "xy")
}

// P17.1: what a delete that has seen an item names is gone, on a long way or on one of several, in its own transaction and twice; what it hasn't seen is not.
func TestGone(t *testing.T) {
	d := del(id('m', 1))
	x := tx('m', "", ins("x"), ins("y"))
	for _, c := range []struct {
		what  string
		l     []one
		shown string
	}{
		{"the next one", []one{tx('b', "m", d)}, "y"},
		{"a long way", []one{tx('b', "m"), tx('c', "b"), tx('a', "c", d)}, "y"},
		{"one of two ways", []one{tx('c', ""), tx('b', "m"), tx('a', "bc", d)}, "y"},
		{"beside, ahead in the one order", []one{tx('a', "", d)}, "yx"},
		{"beside, behind in the one order", []one{tx('z', "", d)}, "yx"},
		{"beside, and joined", []one{tx('z', "", d), tx('a', "mz")}, "yx"},
		{"gone already", []one{tx('a', "m", d), tx('b', "a", d)}, "y"},
		{"by two that have not seen one another", []one{tx('a', "m", d), tx('z', "m", d)}, "y"},
		{"twice in one", []one{tx('a', "m", d, d)}, "y"},
		{"both", []one{tx('a', "m", d), tx('z', "m", del(id('m', 2)))}, ""},
		{"both by one", []one{tx('a', "m", d, del(id('m', 2)))}, ""},
		{"one has seen it, another one hasn't", []one{tx('a', "", d), tx('z', "m", d)}, "y"},
		{"of another key", []one{tx('a', "m", under("l", d), under("", d), under("kk", d))}, "yx"},
		{"of its text", []one{tx('a', "m", api.Op{Kind: api.OpRemove, Key: "k", Text: "x"})}, "yx"},
	} {
		p := history(t, append([]one{x}, c.l...)...)
		wantOnly(t, c.what, p, c.shown, "yx")
		wantOnly(t, c.what+", ahead of it", at(t, p, letters("m")), "yx", "yx")
		wantBehind(t, c.what, p, "k", id('m', 1), "")
		wantBehind(t, c.what, p, "k", api.Ident{}, "yx")
	}
}

// P17.1: within one transaction a delete takes an item away, and what is laid behind that stands there.
func TestWithinOne(t *testing.T) {
	for _, x := range []struct {
		what               string
		ops                []api.Op
		shown, all, behind string // the last one is what was laid behind the first operation's item
	}{
		{"inserted and deleted", []api.Op{ins("x"), del(own(1))}, "", "x", ""},
		{"and inserted behind it", []api.Op{ins("x"), del(own(1)), ins("y", own(1))}, "y", "xy", "y"},
		{"and that deleted", []api.Op{ins("x"), del(own(1)), ins("y", own(1)), del(own(3))}, "", "xy", "y"},
		{"the middle one", []api.Op{ins("x"), ins("y", own(1)), ins("z", own(2)), del(own(2))}, "xz", "xyz", "y"},
		{"twice", []api.Op{ins("x"), ins("y", own(1)), del(own(1)), del(own(1))}, "y", "xy", "y"},
		{"inserted anew", []api.Op{ins("x"), del(own(1)), ins("x")}, "x", "xx", ""},
	} {
		p := history(t, tx('b', "", x.ops...))
		wantOnly(t, x.what, p, x.shown, x.all)
		wantBehind(t, x.what, p, "k", id('b', 1), x.behind)
		p = history(t, tx('a', "", ins("1")), tx('b', "a", x.ops...), tx('c', "a", ins("2", id('a', 1))))
		wantOnly(t, x.what+", among others", p, x.shown+"12", x.all+"12")
		wantBehind(t, x.what+", among others", p, "k", id('b', 1), x.behind)
	}
}

// P17.1, P17.2: what is laid behind an item that is gone stands there, by whoever has seen that it is gone, and by who hasn't; gone ones are items for Behind.
func TestBehindGone(t *testing.T) {
	row := []one{tx('m', "", ins("x"), ins("y", own(1))), tx('n', "m", del(id('m', 1)))}
	for _, name := range []byte("az") {
		for _, parents := range []string{"m", "n"} {
			p := history(t, append(row, tx(name, parents, ins("p", id('m', 1)), ins("q", own(1))))...)
			wantOnly(t, "behind a gone one", p, "pqy", "xpqy")
			wantBehind(t, "behind a gone one", p, "k", id('m', 1), "py")
			wantBehind(t, "behind a gone one", p, "k", api.Ident{}, "x")
			wantBehind(t, "behind a gone one", p, "k", id(name, 1), "q")
			wantBehind(t, "behind a gone one", p, "k", id(name, 2), "")
		}
	}
	p := history(t, append(row, tx('o', "n", del(id('m', 2)), ins("z", id('m', 2)), del(own(2))))...)
	wantOnly(t, "all are gone", p, "", "xyz")
	wantBehind(t, "all are gone", p, "k", id('m', 2), "z")
	wantBehind(t, "all are gone", p, "k", id('o', 2), "")
	wantErrAt(t, "all are gone", p, "k", id('o', 1), id('o', 3), id('n', 1))
}

// P17.1: chains of items, each by another one, in the order of hashes and against it, and inserts into their middle.
func TestChains(t *testing.T) {
	for _, names := range []string{"abcdef", "fedcba", "cfaebd"} {
		row := []one{tx(names[0], "", ins("0"))}
		for i := 1; i < len(names); i++ {
			row = append(row, tx(names[i], names[i-1:i], ins(string('0'+rune(i)), id(names[i-1], 1))))
		}
		wantOnly(t, names, history(t, row...), "012345", "012345")
		for i := range names {
			all := "012345"[:i+1] + "x" + "012345"[i+1:]
			p := history(t, append(row, tx('x', names[5:], ins("x", id(names[i], 1))))...)
			wantOnly(t, names+", one more", p, all, all)
			p = history(t, append(row, tx('x', names[5:], del(id(names[i], 1))))...)
			wantOnly(t, names+", one gone", p, "012345"[:i]+"012345"[i+1:], "012345")
			p = at(t, history(t, row...), letters(names[i:i+1]))
			wantOnly(t, names+", earlier", p, "012345"[:i+1], "012345"[:i+1])
		}
	}
}

// P17.1: a key is told once, rising byte by byte, if its list shows an item; not, if all of its items are gone, or it has none.
func TestKeys(t *testing.T) {
	p := history(t,
		tx('b', "", under("kk", ins("1")), under("l", ins("2")), under("\xff", ins("3")), under("gone", ins("4")), under("gone", ins("5", own(4))), under("k\x00", ins("")), under("Z", ins("6"))),
		tx('a', "", under("k", ins("7")), under("", ins("8")), under("kk", ins("9")), under("é", ins("0")), under("m", ins("a")), under("m", ins("b"))),
		tx('c', "ab", under("gone", del(id('b', 4))), under("gone", del(id('b', 5))), under("never", ins("no", id('b', 4))), under("l", del(id('b', 1))), under("\x00", ins("c")), under("m", del(id('a', 5)))),
		tx('d', "", under("Z", del(id('b', 7))), under("z", ins("d")), under("z", del(own(2))), under("k", ins("e"))),
	)
	wantKeys(t, "many", p, "", "\x00", "Z", "k", "k\x00", "kk", "l", "m", "é", "\xff")
	for key, want := range map[string][2]string{"": {"8", "8"}, "k": {"e7", "e7"}, "kk": {"19", "19"}, "k\x00": {"", ""}, "gone": {"", "45"}, "never": {"", ""}, "l": {"2", "2"}, "m": {"b", "ba"}, "z": {"", "d"}, "Z": {"6", "6"}} {
		wantTexts(t, "many", p, key, want[0], want[1])
	}
	wantKeys(t, "at b", at(t, p, letters("b")), "Z", "gone", "k\x00", "kk", "l", "\xff")
	if l := seq.Items(p, "k\x00"); len(l) != 1 || l[0] != (api.Item{ID: id('b', 6)}) {
		t.Errorf("an item of no text: %s", showItems(l))
	}
	wantKeys(t, "the key of no bytes alone", history(t, tx('a', "", under("", ins("x")))), "")
	wantKeys(t, "the key of no bytes, gone", history(t, tx('a', "", under("", ins("x")), ins("y")), tx('b', "a", under("", del(id('a', 1))))), "k")
}

// P17.1: of keys of which one begins another each has its own list.
func TestBeginnings(t *testing.T) {
	keys := []string{"", "\x00", "a", "a\x00", "a\x00\x00", "aa", "aaa", "ab", "b", "\xff", "\xff\xff"}
	ops := []api.Op{}
	for i := range keys {
		ops = append(ops, under(keys[i*4%len(keys)], ins(string('a'+rune(i)))))
	}
	row := []one{tx('b', "", ops...)}
	wantKeys(t, "all", history(t, row...), keys...)
	for i := range keys {
		key, text := keys[i*4%len(keys)], string('a'+rune(i))
		wantTexts(t, "all", history(t, row...), key, text, text)
		p := history(t, append(row, tx('a', "b", under(key, del(id('b', i+1)))))...)
		wantTexts(t, "one gone", p, key, "", text)
		wantKeys(t, "one gone", p, slices.DeleteFunc(slices.Clone(keys), func(k string) bool { return k == key })...)
		for _, other := range keys {
			if other != key {
				wantErrAt(t, "an item of another list", p, other, id('b', i+1))
			}
		}
	}
}

// P17.1: operations of other kinds with the same key make no items, and take none away, whether they have seen them or not.
func TestOtherKinds(t *testing.T) {
	for _, kind := range otherKinds() {
		o := fitted(api.Op{Kind: kind, Key: "k"}, "x")
		wantOnly(t, "alone", history(t, tx('a', "", o)), "", "")
		wantOnly(t, "behind", history(t, tx('a', "", ins("x")), tx('b', "a", o)), "x", "x")
		wantOnly(t, "ahead", history(t, tx('a', "", o), tx('b', "a", ins("x"))), "x", "x")
		wantOnly(t, "within", history(t, tx('a', "", o, ins("x"), o, ins("y", own(2)), o)), "xy", "xy")
		wantOnly(t, "beside", history(t, tx('a', "", o), tx('b', "", ins("x")), tx('c', "", o)), "x", "x")
		wantOnly(t, "gone", history(t, tx('a', "", ins("x"), o), tx('b', "a", o, del(id('a', 1)))), "", "x")
		wantErrAt(t, "another kind", history(t, tx('a', "", o, ins("x"), o)), "k", id('a', 1), id('a', 3))
	}
}

// P17.2: what is told of names that are no items of a list: other operations, those of other lists, numbers that aren't there, and a zero Node.
func TestBehindWrong(t *testing.T) {
	p := history(t, tx('a', "", ins("x"), under("l", ins("y")), del(own(1)), api.Op{Kind: api.OpPut, Key: "k"}), tx('b', "", ins("no", id('a', 1))))
	wrong := append(odd(), id('a', 0), id('a', -1), id('a', 3), id('a', 4), id('a', 5), id('a', api.MaxOps), id('a', api.MaxOps+1), id('b', 1), id('b', 0), id('c', 1), api.Ident{Node: api.Hash{'a', 31: 1}, Op: 1})
	for _, key := range []string{"k", "l", "", "none"} {
		wantErrAt(t, "wrong", p, key, wrong...)
		wantErrAt(t, "another list's", p, key, map[string][]api.Ident{"k": {id('a', 2)}, "l": {id('a', 1)}, "": {id('a', 1), id('a', 2)}}[key]...)
	}
	wantBehind(t, "right", p, "k", id('a', 1), "")
	wantBehind(t, "right", p, "l", id('a', 2), "")
	wantBehind(t, "right", p, "l", api.Ident{}, "y")
}

// P17.1, P17.2: hashes are taken as they are told: items of the transaction of the zero hash have names as others, which no At of another transaction can tell.
func TestHashes(t *testing.T) {
	zero, first, last := api.Hash{}, api.Hash{1}, api.Hash{31: 1}
	l := []api.Entry{behind(first, nil, nil, ins("1")), behind(zero, nil, nil, ins("2"), ins("3", own(1))), behind(last, nil, nil, ins("4"))}
	p := of(t, l)
	wantOnly(t, "apart", p, "1423", "1423")
	wantBehind(t, "the zero hash", p, "k", own(1), "3")
	wantBehind(t, "the zero hash", p, "k", own(2), "")
	wantBehind(t, "the last bit", p, "k", api.Ident{Node: last, Op: 1}, "")
	wantErrAt(t, "the zero hash", p, "k", own(3), own(-1))
	l = append(l, behind(api.Hash{255}, l, []api.Hash{zero, last}, ins("5"), ins("6", own(1)), del(own(1)), ins("7", api.Ident{Node: last, Op: 1})))
	wantOnly(t, "behind the zero hash", of(t, l), "614723", "5614723")
	wantBehind(t, "behind the zero hash", of(t, l), "k", own(1), "3")
}

// wantWords fails, if of a history is told something else than what the words say of its entries: of all keys that are used, and of others.
func wantWords(t *testing.T, what string, p *past.Past, l []api.Entry) map[string]list {
	t.Helper()
	keys := append(names(), "none", "k\x00\x00")
	for _, x := range l {
		for _, o := range x.Node.Ops {
			keys = append(keys, o.Key)
		}
	}
	want, shown := lists(l, slices.Compact(slices.Sorted(slices.Values(keys)))), []string{}
	for key, x := range want {
		if got := seq.All(p, key); !slices.Equal(got, x.all) {
			t.Errorf("%s: All(%q): %s; want %s", what, key, showItems(got), showItems(x.all))
		}
		if got := seq.Items(p, key); !slices.Equal(got, x.shown) {
			t.Errorf("%s: Items(%q): %s; want %s", what, key, showItems(got), showItems(x.shown))
		}
		if len(x.shown) > 0 {
			shown = append(shown, key)
		}
		wantBehindWords(t, what, p, l, key, x.behind)
	}
	wantKeys(t, what, p, slices.Sorted(slices.Values(shown))...)
	return want
}

// wantBehindWords fails, if something else is told of what was laid behind the beginning, behind each operation's name, or behind names that are none's.
func wantBehindWords(t *testing.T, what string, p *past.Past, l []api.Entry, key string, want map[api.Ident][]api.Item) {
	t.Helper()
	ask := append(slices.Collect(maps.Keys(want)), odd()...)
	for _, x := range l {
		for i := range len(x.Node.Ops) + 2 {
			ask = append(ask, api.Ident{Node: x.ID, Op: i})
		}
	}
	for _, at := range ask {
		items, is := want[at]
		e := api.OK
		if !is {
			e = api.ErrAt
		}
		if got, why := seq.Behind(p, key, at); why != e || !slices.Equal(got, items) {
			t.Errorf("%s: Behind(%q, %x:%d): %s, %d; want %s, %d", what, key, at.Node[:3], at.Op, showItems(got), why, showItems(items), e)
		}
	}
}
