package reg_test

import (
	"maps"
	"slices"
	"strings"
	"testing"

	"pleach/api"
	"pleach/past"
	"pleach/reg"
)

// put and clean tell operations of a register.
func put(key, text string) api.Op { return api.Op{Kind: api.OpPut, Key: key, Text: text} }

func clean(key string) api.Op { return api.Op{Kind: api.OpClear, Key: key} }

// one is a transaction: a letter, which is its hash; those of its parents; what it does.
type one struct {
	name    byte
	parents string
	ops     []api.Op
}

func tx(name byte, parents string, ops ...api.Op) one { return one{name, parents, ops} }

// letters tells hashes.
func letters(s string) []api.Hash {
	l := []api.Hash{}
	for _, name := range []byte(s) {
		l = append(l, api.Hash{name})
	}
	return l
}

// entries tells transactions, parents ahead, as entries.
func entries(all []one) []api.Entry {
	l := []api.Entry{}
	for _, x := range all {
		l = append(l, behind(api.Hash{x.name}, l, letters(x.parents), x.ops...))
	}
	return l
}

// of tells the history of entries.
func of(t *testing.T, l []api.Entry) *past.Past {
	t.Helper()
	p, e, at := past.Of(l)
	if e != api.OK {
		t.Fatalf("Of(%s): %d, %d", showAll(l), e, at)
	}
	return p
}

// history tells that of transactions.
func history(t *testing.T, all ...one) *past.Past {
	t.Helper()
	return of(t, entries(all))
}

// at tells a history at heads.
func at(t *testing.T, p *past.Past, heads []api.Hash) *past.Past {
	t.Helper()
	q, e := p.At(heads)
	if e != api.OK {
		t.Fatalf("At(%x): %d", heads, e)
	}
	return q
}

// wantRead fails, if a register holds other texts.
func wantRead(t *testing.T, what string, p *past.Past, key string, want ...string) {
	t.Helper()
	if got := reg.Read(p, key); !slices.Equal(got, want) {
		t.Errorf("%s: Read(%q): %q; want %q", what, key, got, want)
	}
}

// wantKeys fails, if other registers hold something.
func wantKeys(t *testing.T, what string, p *past.Past, want ...string) {
	t.Helper()
	if got := reg.Keys(p); !slices.Equal(got, want) {
		t.Errorf("%s: Keys: %q; want %q", what, got, want)
	}
}

// wantAll fails, if of a history is told something else: of the keys that hold something, of others, and by Keys.
func wantAll(t *testing.T, what string, p *past.Past, want map[string][]string) {
	t.Helper()
	for _, key := range slices.Concat(slices.Collect(maps.Keys(want)), names(), []string{"none", "k\x00\x00"}) {
		wantRead(t, what, p, key, want[key]...)
	}
	wantKeys(t, what, p, slices.Sorted(maps.Keys(want))...)
}

// holds tells what one register holds, if nothing else does.
func holds(key string, texts ...string) map[string][]string {
	if len(texts) == 0 {
		return nil
	}
	return map[string][]string{key: texts}
}

// P14.1: the chapter's examples.
func TestExamples(t *testing.T) {
	for _, x := range []struct {
		what string
		l    []one
		want []string
	}{
		{"one put", []one{tx('a', "", put("k", "1"))}, []string{"1"}},
		{"put over", []one{tx('a', "", put("k", "1")), tx('b', "a", put("k", "2"))}, []string{"2"}},
		{"apart", []one{tx('a', "", put("k", "1")), tx('b', "", put("k", "2"))}, []string{"1", "2"}},
		{"apart, the other way round", []one{tx('b', "", put("k", "1")), tx('a', "", put("k", "2"))}, []string{"2", "1"}},
		{"joined", []one{tx('a', "", put("k", "1")), tx('b', "", put("k", "2")), tx('c', "ab", put("k", "3"))}, []string{"3"}},
		{"a clear that has not seen it", []one{tx('a', "", put("k", "1")), tx('b', "", clean("k")), tx('c', "ab")}, []string{"1"}},
		{"one transaction", []one{tx('a', "", put("k", "1"), put("k", "2"), clean("k"), put("k", "3"), put("k", "4"))}, []string{"4"}},
		{"put and cleared", []one{tx('a', "", put("k", "1"), clean("k"))}, nil},
		{"a set", []one{tx('a', "", api.Op{Kind: api.OpAdd, Key: "k", Text: "1"})}, nil},
	} {
		wantAll(t, x.what, history(t, x.l...), holds("k", x.want...))
	}
}

// P14.1: the first and second of the whole's examples.
func TestExamplesOfTheWhole(t *testing.T) {
	p := history(t, tx('a', "", put("k", "1")), tx('b', "a", put("k", "2")), tx('c', "a", put("k", "3")), tx('d', "bc", put("k", "4")))
	for heads, want := range map[string][]string{"": nil, "a": {"1"}, "b": {"2"}, "c": {"3"}, "bc": {"2", "3"}, "cb": {"2", "3"}, "d": {"4"}, "ad": {"4"}} {
		wantAll(t, "at "+heads, at(t, p, letters(heads)), holds("k", want...))
	}
}

// P14.1: a history of nothing, and one whose transactions do nothing: there is nothing to tell, whatever is asked for.
func TestNothing(t *testing.T) {
	wantAll(t, "no entries", history(t), nil)
	wantAll(t, "no operations", history(t, tx('a', ""), tx('b', "a"), tx('c', "")), nil)
}

// P14.1: of a key that nobody has put nothing is told: not of a part of one that was, nor of one that is longer than a key may be.
func TestNobodyPut(t *testing.T) {
	long := strings.Repeat("k", api.MaxKey)
	p := history(t, tx('a', "", put("key", "1"), clean("cleared"), put(long, "2")), tx('b', "a", clean("key0")))
	for _, key := range []string{"", "k", "ke", "ey", "key ", "key\x00", "Key", "1", "cleared", "key0", "\xff", long + "k", long[1:]} {
		wantRead(t, "nobody has put it", p, key)
	}
	wantKeys(t, "put", p, "key", long)
	wantRead(t, "put", p, "key", "1")
	wantRead(t, "put", p, long, "2")
}

// P14.1: what has been put over or cleared, by one that has seen it on a long way or on one of several, is gone.
func TestSeenFarAway(t *testing.T) {
	for _, last := range []struct {
		op   api.Op
		want []string
	}{{put("k", "2"), []string{"2"}}, {clean("k"), nil}} {
		wantAll(t, "a long way", history(t, tx('a', "", put("k", "1")), tx('b', "a"), tx('c', "b"), tx('d', "c", last.op)), holds("k", last.want...))
		wantAll(t, "one of two ways", history(t, tx('b', "", put("k", "1")), tx('a', ""), tx('c', "b"), tx('d', "ac", last.op)), holds("k", last.want...))
		wantAll(t, "two ways", history(t, tx('d', "", put("k", "1")), tx('b', "d"), tx('c', "d"), tx('a', "bc", last.op)), holds("k", last.want...))
	}
}

// P14.1: what was put over stays gone, when what was put over it is cleared, or cleared by one that hasn't seen it.
func TestPutOverAndCleared(t *testing.T) {
	wantAll(t, "cleared", history(t, tx('a', "", put("k", "1")), tx('b', "a", put("k", "2")), tx('c', "b", clean("k"))), nil)
	wantAll(t, "cleared by one that has seen the first put alone", history(t, tx('a', "", put("k", "1")), tx('b', "a", put("k", "2")), tx('c', "a", clean("k"))), holds("k", "2"))
	wantAll(t, "put again", history(t, tx('a', "", put("k", "1")), tx('b', "a", clean("k")), tx('c', "b", put("k", "1"))), holds("k", "1"))
	wantAll(t, "a clear that a put has seen", history(t, tx('a', "", clean("k")), tx('b', "a", put("k", "1"))), holds("k", "1"))
}

// P14.1: of several that have not seen one another each puts over what it has seen alone.
func TestApart(t *testing.T) {
	row := []one{
		tx('m', "", put("k", "1")),
		tx('n', "m", put("k", "2")),
		tx('a', "m", put("k", "3")),
		tx('z', "", put("k", "4")),
	}
	wantAll(t, "three", history(t, row...), holds("k", "3", "2", "4"))
	wantAll(t, "put over one", history(t, append(row, tx('b', "n", put("k", "5")))...), holds("k", "3", "5", "4"))
	wantAll(t, "put over two", history(t, append(row, tx('b', "nz", put("k", "5")))...), holds("k", "3", "5"))
	wantAll(t, "cleared two", history(t, append(row, tx('b', "az", clean("k")))...), holds("k", "2"))
	wantAll(t, "cleared three", history(t, append(row, tx('b', "anz", clean("k")))...), nil)
}

// P14.1: texts stand in the one order of their operations, which is neither that of the hashes nor of the clocks nor of the texts nor of the authors.
func TestOneOrder(t *testing.T) {
	l := entries([]one{tx('c', "", put("k", "of c")), tx('b', ""), tx('a', "b", put("k", "of a")), tx('d', "", put("k", "of d")), tx('e', "b", put("k", "0")), tx('f', "", put("k", "9"))})
	for i := range l {
		l[i].Node.Author = api.MaxReplicas - i
	}
	wantAll(t, "the one order", of(t, l), holds("k", "of a", "of c", "of d", "0", "9"))
	// a has the greater clock, and waits for z: so it is placed last, though its hash is the least.
	wantAll(t, "the least hash last", history(t, tx('z', ""), tx('a', "z", put("k", "of a")), tx('y', "", put("k", "of y"))), holds("k", "of y", "of a"))
}

// P14.1: several operations of one key within one transaction, in their order; others stand between.
func TestWithinOne(t *testing.T) {
	for _, x := range []struct {
		what string
		ops  []api.Op
		want []string
	}{
		{"put twice", []api.Op{put("k", "1"), put("k", "2")}, []string{"2"}},
		{"the same text twice", []api.Op{put("k", "1"), put("k", "1")}, []string{"1"}},
		{"cleared, then put", []api.Op{clean("k"), put("k", "1")}, []string{"1"}},
		{"cleared twice", []api.Op{clean("k"), clean("k")}, nil},
		{"put, cleared twice", []api.Op{put("k", "1"), clean("k"), clean("k")}, nil},
		{"put, cleared, put", []api.Op{put("k", "2"), clean("k"), put("k", "1")}, []string{"1"}},
		{"another key between", []api.Op{put("k", "1"), clean("l"), put("k", "2"), clean("kk")}, []string{"2"}},
		{"another kind between", []api.Op{put("k", "1"), {Kind: api.OpAdd, Key: "k", Text: "x"}, clean("k"), {Kind: api.OpWipe, Key: "k"}, put("k", "3"), {Kind: api.OpZero, Key: "k"}}, []string{"3"}},
		{"no bytes", []api.Op{put("k", "1"), put("k", "")}, []string{""}},
	} {
		alone := []one{tx('b', "", x.ops...)}
		wantAll(t, x.what, history(t, alone...), holds("k", x.want...))
		seen := []one{tx('a', "", put("k", "old")), tx('b', "a", x.ops...)}
		wantAll(t, x.what+", behind another one", history(t, seen...), holds("k", x.want...))
		beside := []one{tx('a', "", put("k", "of a")), tx('b', "", x.ops...), tx('c', "", put("k", "of c"))}
		wantAll(t, x.what+", beside others", history(t, beside...), holds("k", slices.Concat([]string{"of a"}, x.want, []string{"of c"})...))
		over := append(beside, tx('d', "ab", put("k", "of d")))
		wantAll(t, x.what+", put over", history(t, over...), holds("k", "of c", "of d"))
	}
}

// P14.1: within one transaction, what others put stays gone whatever it does then, and what it hasn't seen stays.
func TestWithinOneOfMany(t *testing.T) {
	row := []one{tx('a', "", put("k", "1")), tx('b', "", put("k", "2")), tx('c', "", put("k", "3"))}
	wantAll(t, "put and cleared", history(t, append(row, tx('d', "ac", put("k", "4"), clean("k")))...), holds("k", "2"))
	wantAll(t, "cleared and put", history(t, append(row, tx('d', "ac", clean("k"), put("k", "4")))...), holds("k", "2", "4"))
	wantAll(t, "put, cleared and put", history(t, append(row, tx('d', "c", put("k", "4"), clean("k"), put("k", "5")))...), holds("k", "1", "2", "5"))
}

// P14.1: the same text stands there as often as it was put so.
func TestSameText(t *testing.T) {
	row := []one{tx('a', "", put("k", "1")), tx('b', "", put("k", "1")), tx('c', "", put("k", "2")), tx('d', "", put("k", "1"))}
	wantAll(t, "the same text", history(t, row...), holds("k", "1", "1", "2", "1"))
	wantAll(t, "no bytes", history(t, tx('a', "", put("k", "")), tx('b', "", put("k", ""))), holds("k", "", ""))
	wantAll(t, "put over by the same", history(t, append(row, tx('e', "bc", put("k", "1")))...), holds("k", "1", "1", "1"))
	wantAll(t, "put anew by the same", history(t, tx('a', "", put("k", "1")), tx('b', "a", put("k", "1"))), holds("k", "1"))
}

// P14.1: a key is told once, rising byte by byte, if its register holds a text, of no bytes too; not, if it was cleared.
func TestKeys(t *testing.T) {
	p := history(t,
		tx('b', "", put("kk", "1"), put("l", "1"), put("\xff", ""), put("gone", "1"), put("k\x00", "1"), put("Z", "1")),
		tx('a', "", put("k", ""), put("", ""), put("kk", "2"), put("é", "1"), put("m", "1"), put("m", "2")),
		tx('c', "ab", put("l", "2"), clean("gone"), clean("never"), put("k", "1"), put("\x00", "1")),
		tx('d', "", put("k", "3"), put("z", "3"), clean("z"), put("gone too", "1"), clean("gone too")),
	)
	want := map[string][]string{"": {""}, "\x00": {"1"}, "Z": {"1"}, "k": {"1", "3"}, "k\x00": {"1"}, "kk": {"2", "1"}, "l": {"2"}, "m": {"2"}, "é": {"1"}, "\xff": {""}}
	wantAll(t, "many", p, want)
	wantKeys(t, "many", p, "", "\x00", "Z", "k", "k\x00", "kk", "l", "m", "é", "\xff")
	wantAll(t, "the key of no bytes alone", history(t, tx('a', "", put("", "1"))), holds("", "1"))
	wantAll(t, "the key of no bytes, cleared", history(t, tx('a', "", put("", "1"), put("k", "2")), tx('b', "a", clean(""))), holds("k", "2"))
}

// P14.1: a clear takes away what it has seen of its own key alone, not of one that begins with it.
func TestClearOfOthers(t *testing.T) {
	row := []one{tx('a', "", put("", "0"), put("k", "1"), put("kk", "2"), put("kkk", "3"))}
	wantAll(t, "no bytes", history(t, append(row, tx('b', "a", clean("")))...), map[string][]string{"k": {"1"}, "kk": {"2"}, "kkk": {"3"}})
	wantAll(t, "kk", history(t, append(row, tx('b', "a", clean("kk")))...), map[string][]string{"": {"0"}, "k": {"1"}, "kkk": {"3"}})
	wantAll(t, "another key", history(t, append(row, tx('b', "a", clean("kkkk")))...), map[string][]string{"": {"0"}, "k": {"1"}, "kk": {"2"}, "kkk": {"3"}})
}

// P14.1: operations of other kinds with the same key neither put nor clear, whether they have seen a put or were seen by one.
func TestOtherKinds(t *testing.T) {
	for _, kind := range otherKinds() {
		o := fitted(api.Op{Kind: kind, Key: "k"}, "1", 0)
		wantAll(t, "alone", history(t, tx('a', "", o)), nil)
		wantAll(t, "behind", history(t, tx('a', "", put("k", "1")), tx('b', "a", o)), holds("k", "1"))
		wantAll(t, "ahead", history(t, tx('a', "", o), tx('b', "a", put("k", "1"))), holds("k", "1"))
		wantAll(t, "within", history(t, tx('a', "", o, put("k", "1"), o)), holds("k", "1"))
		wantAll(t, "beside", history(t, tx('a', "", o), tx('b', "", put("k", "1")), tx('c', "", o)), holds("k", "1"))
		wantAll(t, "cleared", history(t, tx('a', "", put("k", "1")), tx('b', "a", o), tx('c', "b", clean("k"), o)), nil)
	}
}

// P14.1: hashes are taken as they are told: the zero hash, and such as are alike but for one byte, are hashes as others.
func TestHashes(t *testing.T) {
	zero, first, last := api.Hash{}, api.Hash{1}, api.Hash{31: 1}
	l := []api.Entry{behind(first, nil, nil, put("k", "first")), behind(zero, nil, nil, put("k", "zero")), behind(last, nil, nil, put("k", "last"))}
	wantAll(t, "apart", of(t, l), holds("k", "zero", "last", "first"))
	l = append(l, behind(api.Hash{255}, l, []api.Hash{zero}, put("k", "behind zero")))
	wantAll(t, "behind the zero hash", of(t, l), holds("k", "last", "first", "behind zero"))
}
