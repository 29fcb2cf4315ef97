package orset_test

import (
	"maps"
	"slices"
	"strings"
	"testing"

	"pleach/api"
	"pleach/orset"
	"pleach/past"
)

// add, remove and wipe tell operations of a set.
func add(key, text string) api.Op { return api.Op{Kind: api.OpAdd, Key: key, Text: text} }

func remove(key, text string) api.Op { return api.Op{Kind: api.OpRemove, Key: key, Text: text} }

func wipe(key string) api.Op { return api.Op{Kind: api.OpWipe, Key: key} }

// one is a transaction: a letter, which is its hash; those of its parents; what it does.
type one struct {
	name    byte
	parents string
	ops     []api.Op
}

func tx(name byte, parents string, ops ...api.Op) one { return one{name, parents, ops} }

// letters tells hashes.
func letters(s string) []api.Hash {
	l := []api.Hash{}
	for _, name := range []byte(s) {
		l = append(l, api.Hash{name})
	}
	return l
}

// entries tells transactions, parents ahead, as entries.
func entries(all []one) []api.Entry {
	l := []api.Entry{}
	for _, x := range all {
		l = append(l, behind(api.Hash{x.name}, l, letters(x.parents), x.ops...))
	}
	return l
}

// of tells the history of entries.
func of(t *testing.T, l []api.Entry) *past.Past {
	t.Helper()
	p, e, at := past.Of(l)
	if e != api.OK {
		t.Fatalf("Of(%s): %d, %d", showAll(l), e, at)
	}
	return p
}

// history tells that of transactions.
func history(t *testing.T, all ...one) *past.Past {
	t.Helper()
	return of(t, entries(all))
}

// at tells a history at heads.
func at(t *testing.T, p *past.Past, heads []api.Hash) *past.Past {
	t.Helper()
	q, e := p.At(heads)
	if e != api.OK {
		t.Fatalf("At(%x): %d", heads, e)
	}
	return q
}

// wantSet fails, if a set has other texts, by Members or by Has.
func wantSet(t *testing.T, what string, p *past.Past, key string, want ...string) {
	t.Helper()
	if got := orset.Members(p, key); !slices.Equal(got, want) {
		t.Errorf("%s: Members(%q): %q; want %q", what, key, got, want)
	}
	for _, text := range slices.Concat(want, texts(), []string{"none", "a\x00\x00"}) {
		if got := orset.Has(p, key, text); got != slices.Contains(want, text) {
			t.Errorf("%s: Has(%q, %q): %v", what, key, text, got)
		}
	}
}

// wantKeys fails, if other sets have something.
func wantKeys(t *testing.T, what string, p *past.Past, want ...string) {
	t.Helper()
	if got := orset.Keys(p); !slices.Equal(got, want) {
		t.Errorf("%s: Keys: %q; want %q", what, got, want)
	}
}

// wantAll fails, if of a history is told something else: of the sets that have something, of others, and by Keys.
func wantAll(t *testing.T, what string, p *past.Past, want map[string][]string) {
	t.Helper()
	for _, key := range slices.Concat(slices.Collect(maps.Keys(want)), names(), []string{"none", "s\x00\x00"}) {
		wantSet(t, what, p, key, want[key]...)
	}
	wantKeys(t, what, p, slices.Sorted(maps.Keys(want))...)
}

// has tells what one set has, if nothing else has something.
func has(key string, texts ...string) map[string][]string {
	if len(texts) == 0 {
		return nil
	}
	return map[string][]string{key: texts}
}

// P15.1: the chapter's examples.
func TestExamples(t *testing.T) {
	wantAll(t, "1", history(t, tx('t', "", add("s", "b"), add("s", "a"), remove("s", "b"))), has("s", "a"))
	wantAll(t, "2", history(t, tx('t', "", remove("s", "b"), add("s", "b"))), has("s", "b"))
	third := []one{tx('t', "", add("s", "a")), tx('u', "t", remove("s", "a")), tx('v', "t", add("s", "a"))}
	wantAll(t, "3", history(t, third...), has("s", "a"))
	wantAll(t, "3, of t and u", history(t, third[:2]...), nil)
	wantAll(t, "3, at u", at(t, history(t, third...), letters("u")), nil)
	fourth := []one{tx('t', "", add("s", "a")), tx('u', "t", wipe("s"), add("s", "c")), tx('v', "t", add("s", "b"))}
	wantAll(t, "4", history(t, fourth...), has("s", "b", "c"))
	wantAll(t, "4, of t and u", history(t, fourth[:2]...), has("s", "c"))
	wantAll(t, "5", history(t, tx('t', "", api.Op{Kind: api.OpPut, Key: "s", Text: "a"})), nil)
}

// P15.1: a history of nothing, and one whose transactions do nothing: there is nothing to tell, whatever is asked for.
func TestNothing(t *testing.T) {
	wantAll(t, "no entries", history(t), nil)
	wantAll(t, "no operations", history(t, tx('a', ""), tx('b', "a"), tx('c', "")), nil)
}

// P15.1: of what nobody has added nothing is told: not of a part of a key or text that was, nor of one that is longer than it may be, nor of the one for the other.
func TestNobodyAdded(t *testing.T) {
	long := strings.Repeat("k", api.MaxKey)
	p := history(t, tx('a', "", add("key", "text"), remove("removed", "text"), wipe("wiped"), add(long, long), add("text", "x")), tx('b', "a", remove("key", "tex")))
	for _, key := range []string{"", "k", "ke", "ey", "key ", "key\x00", "Key", "keytext", "removed", "wiped", "\xff", long + "k", long[1:]} {
		wantSet(t, "nobody has added", p, key)
		for _, text := range []string{"text", "x", "", long} {
			if orset.Has(p, key, text) {
				t.Errorf("Has(%q, %q)", key, text)
			}
		}
	}
	for _, text := range []string{"", "t", "tex", "ext", "text ", "text\x00", "Text", "key", long, long + "k"} {
		if orset.Has(p, "key", text) {
			t.Errorf("Has(key, %q)", text)
		}
	}
	wantKeys(t, "added", p, "key", long, "text")
	wantSet(t, "added", p, "key", "text")
	wantSet(t, "added", p, long, long)
}

// P15.1: one add is told, and added twice, by one or by two that have or have not seen one another, a text is told once.
func TestAdded(t *testing.T) {
	wantAll(t, "one add", history(t, tx('a', "", add("s", "a"))), has("s", "a"))
	wantAll(t, "by one", history(t, tx('a', "", add("s", "a"), add("s", "a"))), has("s", "a"))
	wantAll(t, "by two", history(t, tx('a', "", add("s", "a")), tx('b', "", add("s", "a"))), has("s", "a"))
	wantAll(t, "by two in a row", history(t, tx('a', "", add("s", "a")), tx('b', "a", add("s", "a"))), has("s", "a"))
	wantAll(t, "others between", history(t, tx('a', "", add("s", "b"), add("s", "a"), add("s", "b")), tx('b', "", add("s", "a"), add("s", "c"))), has("s", "a", "b", "c"))
}

// P15.1: what was added twice is gone, when both adds are seen, and stays, when one of them isn't.
func TestAddedTwiceRemoved(t *testing.T) {
	for _, o := range []api.Op{remove("s", "a"), wipe("s")} {
		apart := []one{tx('a', "", add("s", "a")), tx('b', "", add("s", "a"))}
		wantAll(t, "both seen", history(t, append(apart, tx('c', "ab", o))...), nil)
		wantAll(t, "the first seen", history(t, append(apart, tx('c', "a", o))...), has("s", "a"))
		wantAll(t, "the second seen", history(t, append(apart, tx('c', "b", o))...), has("s", "a"))
		wantAll(t, "each seen by another one", history(t, append(apart, tx('c', "a", o), tx('d', "b", o))...), nil)
		row := []one{tx('a', "", add("s", "a")), tx('b', "a", add("s", "a"))}
		wantAll(t, "a row, both seen", history(t, append(row, tx('c', "b", o))...), nil)
		wantAll(t, "a row, the first seen", history(t, append(row, tx('c', "a", o))...), has("s", "a"))
		wantAll(t, "a row, between", history(t, row[0], tx('c', "a", o), tx('b', "c", row[1].ops...)), has("s", "a"))
		wantAll(t, "twice by one", history(t, tx('a', "", add("s", "a"), add("s", "a")), tx('c', "a", o)), nil)
	}
}

// P15.1: what one has removed or wiped that has seen it, on a long way or on one of several, is gone; by one that hasn't, or that it has seen, it isn't.
func TestSeen(t *testing.T) {
	for _, o := range []api.Op{remove("s", "a"), wipe("s")} {
		wantAll(t, "the next one", history(t, tx('a', "", add("s", "a")), tx('b', "a", o)), nil)
		wantAll(t, "a long way", history(t, tx('a', "", add("s", "a")), tx('b', "a"), tx('c', "b"), tx('d', "c", o)), nil)
		wantAll(t, "one of two ways", history(t, tx('b', "", add("s", "a")), tx('a', ""), tx('c', "b"), tx('d', "ac", o)), nil)
		wantAll(t, "two ways", history(t, tx('d', "", add("s", "a")), tx('b', "d"), tx('c', "d"), tx('a', "bc", o)), nil)
		wantAll(t, "beside, ahead in the one order", history(t, tx('b', "", add("s", "a")), tx('a', "", o)), has("s", "a"))
		wantAll(t, "beside, behind in the one order", history(t, tx('a', "", add("s", "a")), tx('b', "", o)), has("s", "a"))
		wantAll(t, "beside, and joined", history(t, tx('a', "", add("s", "a")), tx('b', "", o), tx('c', "ab")), has("s", "a"))
		wantAll(t, "of one root", history(t, tx('r', ""), tx('a', "r", add("s", "a")), tx('b', "r", o)), has("s", "a"))
		wantAll(t, "seen by the add", history(t, tx('b', "", o), tx('a', "b", add("s", "a"))), has("s", "a"))
	}
}

// P15.1: within one transaction an operation has seen those ahead of it alone.
func TestWithinOne(t *testing.T) {
	for _, x := range []struct {
		what string
		ops  []api.Op
		want []string
	}{
		{"added, removed", []api.Op{add("s", "a"), remove("s", "a")}, nil},
		{"removed, added", []api.Op{remove("s", "a"), add("s", "a")}, []string{"a"}},
		{"added, wiped", []api.Op{add("s", "a"), wipe("s")}, nil},
		{"wiped, added", []api.Op{wipe("s"), add("s", "a")}, []string{"a"}},
		{"added twice, removed", []api.Op{add("s", "a"), add("s", "a"), remove("s", "a")}, nil},
		{"added, removed, added", []api.Op{add("s", "a"), remove("s", "a"), add("s", "a")}, []string{"a"}},
		{"added, wiped, added", []api.Op{add("s", "a"), wipe("s"), add("s", "a")}, []string{"a"}},
		{"removed, added, removed", []api.Op{remove("s", "a"), add("s", "a"), remove("s", "a")}, nil},
		{"wiped, added, wiped", []api.Op{wipe("s"), add("s", "a"), wipe("s")}, nil},
		{"removed, added, wiped", []api.Op{remove("s", "a"), add("s", "a"), wipe("s")}, nil},
		{"wiped, added, removed", []api.Op{wipe("s"), add("s", "a"), remove("s", "a")}, nil},
		{"wiped between two", []api.Op{add("s", "a"), wipe("s"), add("s", "b")}, []string{"b"}},
		{"one of two removed", []api.Op{add("s", "b"), add("s", "a"), remove("s", "b")}, []string{"a"}},
		{"another one removed", []api.Op{add("s", "a"), remove("s", "b"), remove("s", ""), remove("s", "aa")}, []string{"a"}},
		{"another key's", []api.Op{add("s", "a"), remove("", "a"), wipe("ss"), wipe("")}, []string{"a"}},
	} {
		wantAll(t, x.what, history(t, tx('b', "", x.ops...)), has("s", x.want...))
		seen := []one{tx('a', "", add("s", "z")), tx('b', "a", append([]api.Op{remove("s", "z")}, x.ops...)...)}
		wantAll(t, x.what+", behind another one", history(t, seen...), has("s", x.want...))
		beside := []one{tx('a', "", add("s", "0"), wipe("s"), remove("s", "a")), tx('b', "", x.ops...), tx('c', "", add("s", "z"))}
		wantAll(t, x.what+", beside others", history(t, beside...), has("s", append(slices.Clone(x.want), "z")...))
		wantAll(t, x.what+", and wiped", history(t, append(beside, tx('d', "ab", wipe("s")))...), has("s", "z"))
	}
}

// P15.1: a wipe takes away all that it has seen, and nothing else, whatever is added then.
func TestWipe(t *testing.T) {
	row := []one{
		tx('m', "", add("s", "a"), add("s", "b"), add("", "a"), add("ss", "a")),
		tx('n', "m", add("s", "c"), add("s", "a")),
		tx('z', "", add("s", "d"), add("s", "b")),
	}
	rest := func(texts ...string) map[string][]string {
		all := map[string][]string{"": {"a"}, "ss": {"a"}}
		maps.Copy(all, has("s", texts...))
		return all
	}
	wantAll(t, "not wiped", history(t, row...), rest("a", "b", "c", "d"))
	wantAll(t, "the first seen", history(t, append(row, tx('a', "m", wipe("s")))...), rest("a", "b", "c", "d"))
	wantAll(t, "the row seen", history(t, append(row, tx('a', "n", wipe("s")))...), rest("b", "d"))
	wantAll(t, "the first and the other one seen", history(t, append(row, tx('a', "mz", wipe("s")))...), rest("a", "c"))
	wantAll(t, "all seen", history(t, append(row, tx('a', "nz", wipe("s")))...), rest())
	wantAll(t, "all seen, by two", history(t, append(row, tx('a', "n", wipe("s")), tx('b', "z", wipe("s")))...), rest())
	wantAll(t, "all seen, and one added", history(t, append(row, tx('a', "nz", wipe("s"), add("s", "c")))...), rest("c"))
	wantAll(t, "another key", history(t, append(row, tx('a', "nz", wipe("sss")))...), rest("a", "b", "c", "d"))
}

// P15.3: what was added anew is there, whoever removed it elsewhere: by one that has seen the remove, and by one that hasn't.
func TestAddedAnew(t *testing.T) {
	for _, o := range []api.Op{remove("s", "a"), wipe("s")} {
		gone := []one{tx('m', "", add("s", "a")), tx('n', "m", o)}
		wantAll(t, "gone", history(t, gone...), nil)
		wantAll(t, "by one that has seen it", history(t, append(gone, tx('a', "n", add("s", "a")))...), has("s", "a"))
		for _, name := range []byte("az") { // ahead of the remove in the one order, and behind it
			wantAll(t, "by one that has seen the add alone", history(t, append(gone, tx(name, "m", add("s", "a")))...), has("s", "a"))
			wantAll(t, "by one that has seen nothing", history(t, append(gone, tx(name, "", add("s", "a")))...), has("s", "a"))
			anew := append(gone, tx(name, "m", add("s", "a")), tx('b', "n", o), tx('c', "n", o))
			wantAll(t, "and removed again elsewhere", history(t, anew...), has("s", "a"))
			wantAll(t, "and joined", history(t, append(anew, tx('d', "bc"+string(name)))...), has("s", "a"))
			wantAll(t, "and removed by one that has seen it", history(t, append(anew, tx('d', "bc"+string(name), o))...), nil)
		}
	}
}

// P15.2: a key is told once, rising byte by byte, if its set has a text, of no bytes too; not, if all its texts were removed.
func TestKeys(t *testing.T) {
	p := history(t,
		tx('b', "", add("ss", "1"), add("l", "1"), add("\xff", ""), add("gone", "1"), add("gone", "2"), add("s\x00", "1"), add("Z", "1")),
		tx('a', "", add("s", ""), add("", ""), add("ss", "2"), add("é", "1"), add("m", "1"), add("m", "2")),
		tx('c', "ab", remove("l", "2"), remove("gone", "2"), remove("gone", "1"), wipe("never"), add("s", "1"), add("\x00", "1")),
		tx('d', "", add("s", "3"), add("z", "3"), wipe("z"), add("gone too", "1"), remove("gone too", "1"), remove("m", "1")),
	)
	want := map[string][]string{"": {""}, "\x00": {"1"}, "Z": {"1"}, "l": {"1"}, "m": {"1", "2"}, "s": {"", "1", "3"}, "s\x00": {"1"}, "ss": {"1", "2"}, "é": {"1"}, "\xff": {""}}
	wantAll(t, "many", p, want)
	wantKeys(t, "many", p, "", "\x00", "Z", "l", "m", "s", "s\x00", "ss", "é", "\xff")
	wantAll(t, "the key of no bytes alone", history(t, tx('a', "", add("", "1"))), has("", "1"))
	wantAll(t, "the key of no bytes, wiped", history(t, tx('a', "", add("", "1"), add("s", "2")), tx('b', "a", wipe(""))), has("s", "2"))
}

// P15.1: texts rise byte by byte, those of no bytes and such as begin others among them.
func TestTextsRise(t *testing.T) {
	want := []string{"", "\x00", "A", "B", "a", "a\x00", "aa", "aaa", "ab", "b", "z", "é", "\xff", "\xff\xff"}
	ops := []api.Op{}
	for i := range want {
		ops = append(ops, add("s", want[i*5%len(want)]))
	}
	p := history(t, tx('a', "", ops...))
	wantAll(t, "by one", p, has("s", want...))
	apart, row := []one{}, []one{}
	for i, o := range ops {
		apart = append(apart, tx('a'+byte(i), "", o))
		parents := ""
		if i > 0 {
			parents = string('a' + byte(i-1))
		}
		row = append(row, tx('a'+byte(i), parents, o))
	}
	wantAll(t, "by many", history(t, apart...), has("s", want...))
	wantAll(t, "in a row", history(t, row...), has("s", want...))
	for i, text := range want {
		p := history(t, append(row, tx('z', string(row[len(row)-1].name), remove("s", text)))...)
		wantAll(t, "one removed", p, has("s", slices.Delete(slices.Clone(want), i, i+1)...))
	}
}

// P15.1: keys and texts are told apart where both together are the same bytes.
func TestTogetherTheSame(t *testing.T) {
	p := history(t, tx('a', "", add("s", "ab"), add("sa", "b"), add("sab", ""), add("", "sab"), add("s\x00", "x"), add("s", "\x00x")))
	want := map[string][]string{"": {"sab"}, "s": {"\x00x", "ab"}, "s\x00": {"x"}, "sa": {"b"}, "sab": {""}}
	wantAll(t, "added", p, want)
	q := history(t, tx('a', "", add("s", "ab"), add("sa", "b"), add("sab", ""), add("", "sab")), tx('b', "a", remove("sa", "b"), wipe("")))
	wantAll(t, "one removed, one wiped", q, map[string][]string{"s": {"ab"}, "sab": {""}})
}

// P15.1: a wipe of a key has nothing to do with a remove of the text of no bytes.
func TestNoBytes(t *testing.T) {
	row := []one{tx('a', "", add("s", ""), add("s", "a"), add("", ""))}
	wantAll(t, "added", history(t, row...), map[string][]string{"s": {"", "a"}, "": {""}})
	wantAll(t, "removed", history(t, append(row, tx('b', "a", remove("s", "")))...), map[string][]string{"s": {"a"}, "": {""}})
	wantAll(t, "wiped", history(t, append(row, tx('b', "a", wipe("s")))...), has("", ""))
	wantAll(t, "the key of no bytes removed", history(t, append(row, tx('b', "a", remove("", "")))...), has("s", "", "a"))
	wantAll(t, "the key of no bytes wiped", history(t, append(row, tx('b', "a", wipe("")))...), has("s", "", "a"))
}

// P15.1: operations of other kinds with the same key and text neither add nor undo, whether they have seen an add or were seen by one.
func TestOtherKinds(t *testing.T) {
	for _, kind := range otherKinds() {
		o := fitted(api.Op{Kind: kind, Key: "s"}, "a", 0)
		wantAll(t, "alone", history(t, tx('a', "", o)), nil)
		wantAll(t, "behind", history(t, tx('a', "", add("s", "a")), tx('b', "a", o)), has("s", "a"))
		wantAll(t, "ahead", history(t, tx('a', "", o), tx('b', "a", add("s", "a"))), has("s", "a"))
		wantAll(t, "within", history(t, tx('a', "", o, add("s", "a"), o)), has("s", "a"))
		wantAll(t, "beside", history(t, tx('a', "", o), tx('b', "", add("s", "a")), tx('c', "", o)), has("s", "a"))
		wantAll(t, "removed", history(t, tx('a', "", add("s", "a")), tx('b', "a", o), tx('c', "b", remove("s", "a"), o)), nil)
	}
}

// P15.1: hashes are taken as they are told: the zero hash, and such as are alike but for one byte, are hashes as others.
func TestHashes(t *testing.T) {
	zero, first, last := api.Hash{}, api.Hash{1}, api.Hash{31: 1}
	l := []api.Entry{behind(first, nil, nil, add("s", "first")), behind(zero, nil, nil, add("s", "zero")), behind(last, nil, nil, add("s", "last"))}
	wantAll(t, "apart", of(t, l), has("s", "first", "last", "zero"))
	l = append(l, behind(api.Hash{255}, l, []api.Hash{zero}, wipe("s")))
	wantAll(t, "behind the zero hash", of(t, l), has("s", "first", "last"))
}
