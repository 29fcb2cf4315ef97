package counts_test

import (
	"maps"
	"math"
	"slices"
	"strings"
	"testing"

	"pleach/api"
	"pleach/counts"
	"pleach/past"
)

// incr and zero tell operations of a counter.
func incr(key string, n int64) api.Op { return api.Op{Kind: api.OpIncr, Key: key, N: n} }

func zero(key string) api.Op { return api.Op{Kind: api.OpZero, Key: key} }

// one is a transaction: a letter, which is its hash; those of its parents; what it does.
type one struct {
	name    byte
	parents string
	ops     []api.Op
}

func tx(name byte, parents string, ops ...api.Op) one { return one{name, parents, ops} }

// letters tells hashes.
func letters(s string) []api.Hash {
	l := []api.Hash{}
	for _, name := range []byte(s) {
		l = append(l, api.Hash{name})
	}
	return l
}

// entries tells transactions, parents ahead, as entries.
func entries(all []one) []api.Entry {
	l := []api.Entry{}
	for _, x := range all {
		l = append(l, behind(api.Hash{x.name}, l, letters(x.parents), x.ops...))
	}
	return l
}

// of tells the history of entries.
func of(t *testing.T, l []api.Entry) *past.Past {
	t.Helper()
	p, e, at := past.Of(l)
	if e != api.OK {
		t.Fatalf("Of(%s): %d, %d", showAll(l), e, at)
	}
	return p
}

// history tells that of transactions.
func history(t *testing.T, all ...one) *past.Past {
	t.Helper()
	return of(t, entries(all))
}

// at tells a history at heads.
func at(t *testing.T, p *past.Past, heads []api.Hash) *past.Past {
	t.Helper()
	q, e := p.At(heads)
	if e != api.OK {
		t.Fatalf("At(%x): %d", heads, e)
	}
	return q
}

// wantValue fails, if a counter comes to something else.
func wantValue(t *testing.T, what string, p *past.Past, key string, want int64) {
	t.Helper()
	if got := counts.Value(p, key); got != want {
		t.Errorf("%s: Value(%q): %d; want %d", what, key, got, want)
	}
}

// wantKeys fails, if other counters don't come to 0.
func wantKeys(t *testing.T, what string, p *past.Past, want ...string) {
	t.Helper()
	if got := counts.Keys(p); !slices.Equal(got, want) {
		t.Errorf("%s: Keys: %q; want %q", what, got, want)
	}
}

// wantAll fails, if of a history is told something else: of the counters that don't come to 0, of others, and by Keys.
func wantAll(t *testing.T, what string, p *past.Past, want map[string]int64) {
	t.Helper()
	for _, key := range slices.Concat(slices.Collect(maps.Keys(want)), names(), []string{"none", "k\x00\x00"}) {
		wantValue(t, what, p, key, want[key])
	}
	wantKeys(t, what, p, slices.Sorted(maps.Keys(want))...)
}

// comes tells what one counter comes to, if all others come to 0.
func comes(key string, n int64) map[string]int64 {
	if n == 0 {
		return nil
	}
	return map[string]int64{key: n}
}

// P16.1, P16.2: the chapter's examples.
func TestExamples(t *testing.T) {
	row := []one{tx('a', "", incr("k", 5)), tx('b', "a", zero("k")), tx('c', "a", incr("k", 7))}
	wantAll(t, "1", history(t, row[0]), comes("k", 5))
	wantValue(t, "1", history(t, row[0]), "m", 0)
	wantAll(t, "2", history(t, row...), comes("k", 7))
	wantAll(t, "2, at a", at(t, history(t, row...), letters("a")), comes("k", 5))
	wantAll(t, "2, at b", at(t, history(t, row...), letters("b")), nil)
	wantAll(t, "2, at c", at(t, history(t, row...), letters("c")), comes("k", 12))
	wantAll(t, "3", history(t, append(row, tx('d', "bc", incr("k", 1), zero("k"), incr("k", 2)))...), comes("k", 2))
	wantAll(t, "3, in its place", history(t, append(row, tx('d', "bc", zero("k"), incr("k", 1), incr("k", -1)))...), nil)
	wantAll(t, "4", history(t, tx('a', "", incr("k", math.MaxInt64)), tx('b', "a", incr("k", 1))), comes("k", math.MinInt64))
	wantAll(t, "5", history(t, tx('a', "", zero("k"), incr("k", 3))), comes("k", 3))
}

// P16.1: the fifth of the document's examples of the whole: two count at one time, and a zero has seen one of both.
func TestAtOneTimeCounted(t *testing.T) {
	both := []one{tx('a', "", incr("n", 5)), tx('b', "", incr("n", 7))}
	wantAll(t, "both", history(t, both...), comes("n", 12))
	for _, name := range []byte("Ac") { // wherever the zero's hash puts it
		wantAll(t, "the 5 alone seen", history(t, append(both, tx(name, "a", zero("n")))...), comes("n", 7))
		wantAll(t, "the 7 alone seen", history(t, append(both, tx(name, "b", zero("n")))...), comes("n", 5))
		wantAll(t, "both seen", history(t, append(both, tx(name, "ab", zero("n")))...), nil)
		wantAll(t, "none seen", history(t, append(both, tx(name, "", zero("n")))...), comes("n", 12))
	}
}

// P16.1: a history of nothing, and one whose transactions do nothing: every counter is 0.
func TestNothing(t *testing.T) {
	wantAll(t, "no entries", history(t), nil)
	wantAll(t, "no operations", history(t, tx('a', ""), tx('b', "a"), tx('c', "")), nil)
}

// P16.1: what nobody has counted under is 0: a part of a key too, and one that is longer than it may be.
func TestNobodyCounted(t *testing.T) {
	long := strings.Repeat("k", api.MaxKey)
	p := history(t, tx('a', "", incr("key", 4), zero("zeroed"), incr(long, 3), incr("never", 0)), tx('b', "a", zero("ke")))
	for _, key := range []string{"", "k", "ke", "ey", "key ", "key\x00", "Key", "zeroed", "never", "\xff", long + "k", long[1:]} {
		wantValue(t, "nobody has counted", p, key, 0)
	}
	wantAll(t, "counted", p, map[string]int64{"key": 4, long: 3})
}

// P16.1: each OpIncr counts, also the same one twice: in one transaction, in several that have seen one another, and in such as haven't.
func TestEachCounts(t *testing.T) {
	wantAll(t, "one", history(t, tx('a', "", incr("k", 5))), comes("k", 5))
	wantAll(t, "below 0", history(t, tx('a', "", incr("k", -5))), comes("k", -5))
	wantAll(t, "in one", history(t, tx('a', "", incr("k", 5), incr("k", 5), incr("k", -1))), comes("k", 9))
	wantAll(t, "in two", history(t, tx('a', "", incr("k", 5)), tx('b', "", incr("k", 5))), comes("k", 10))
	wantAll(t, "in two in a row", history(t, tx('a', "", incr("k", 5)), tx('b', "a", incr("k", 5))), comes("k", 10))
	wantAll(t, "others between", history(t, tx('a', "", incr("k", 5), incr("kk", 1), incr("k", 2)), tx('b', "", incr("", 8), incr("k", -9))), map[string]int64{"": 8, "k": -2, "kk": 1})
	wantAll(t, "on two ways to one", history(t, tx('a', "", incr("k", 5)), tx('b', "a"), tx('c', "a"), tx('d', "bc", incr("k", 1))), comes("k", 6))
}

// P16.1: what a zero has seen, on a long way or on one of several, counts no more; what it hasn't, or what has seen the zero, does.
func TestSeen(t *testing.T) {
	o := zero("k")
	wantAll(t, "the next one", history(t, tx('a', "", incr("k", 5)), tx('b', "a", o)), nil)
	wantAll(t, "a long way", history(t, tx('a', "", incr("k", 5)), tx('b', "a"), tx('c', "b"), tx('d', "c", o)), nil)
	wantAll(t, "one of two ways", history(t, tx('b', "", incr("k", 5)), tx('a', ""), tx('c', "b"), tx('d', "ac", o)), nil)
	wantAll(t, "two ways", history(t, tx('d', "", incr("k", 5)), tx('b', "d"), tx('c', "d"), tx('a', "bc", o)), nil)
	wantAll(t, "beside, ahead in the one order", history(t, tx('b', "", incr("k", 5)), tx('a', "", o)), comes("k", 5))
	wantAll(t, "beside, behind in the one order", history(t, tx('a', "", incr("k", 5)), tx('b', "", o)), comes("k", 5))
	wantAll(t, "beside, and joined", history(t, tx('a', "", incr("k", 5)), tx('b', "", o), tx('c', "ab")), comes("k", 5))
	wantAll(t, "of one root", history(t, tx('r', ""), tx('a', "r", incr("k", 5)), tx('b', "r", o)), comes("k", 5))
	wantAll(t, "seen by it", history(t, tx('b', "", o), tx('a', "b", incr("k", 5))), comes("k", 5))
	wantAll(t, "between two", history(t, tx('c', "", incr("k", 5)), tx('b', "c", o), tx('a', "b", incr("k", 7))), comes("k", 7))
}

// P16.1: a zero that has seen some and not others leaves the others, in whatever order they stand.
func TestSomeSeen(t *testing.T) {
	four := []one{tx('m', "", incr("k", 1), incr("k", 16)), tx('n', "m", incr("k", 2)), tx('x', "", incr("k", 4)), tx('y', "x", incr("k", 8))}
	for _, x := range []struct {
		parents string
		left    int64
	}{{"", 31}, {"m", 14}, {"n", 12}, {"x", 27}, {"y", 19}, {"mx", 10}, {"nx", 8}, {"my", 2}, {"ny", 0}} {
		for _, name := range []byte("aoz") {
			p := history(t, append(four, tx(name, x.parents, zero("k")))...)
			wantAll(t, "seen: "+x.parents, p, comes("k", x.left))
			wantAll(t, "the zero's own, seen: "+x.parents, at(t, p, letters(string(name))), nil)
			p = history(t, append(four, tx(name, x.parents, zero("k"), incr("k", 32)))...)
			wantAll(t, "and counted, seen: "+x.parents, p, comes("k", x.left+32))
		}
	}
}

// P16.1: within one transaction a zero has seen what stands ahead of it alone.
func TestWithinOne(t *testing.T) {
	for _, x := range []struct {
		what string
		ops  []api.Op
		want int64
	}{
		{"counted, zero", []api.Op{incr("k", 3), zero("k")}, 0},
		{"zero, counted", []api.Op{zero("k"), incr("k", 3)}, 3},
		{"counted twice, zero", []api.Op{incr("k", 3), incr("k", 4), zero("k")}, 0},
		{"counted, zero, counted", []api.Op{incr("k", 3), zero("k"), incr("k", 4)}, 4},
		{"zero, counted, zero", []api.Op{zero("k"), incr("k", 3), zero("k")}, 0},
		{"zero, counted twice", []api.Op{zero("k"), incr("k", 3), incr("k", 4)}, 7},
		{"two zeros, counted around", []api.Op{incr("k", 1), zero("k"), incr("k", 2), zero("k"), incr("k", 4)}, 4},
		{"zeros alone", []api.Op{zero("k"), zero("k")}, 0},
		{"another key's zeros", []api.Op{incr("k", 3), zero(""), zero("kk"), zero("k\x00")}, 3},
	} {
		wantAll(t, x.what, history(t, tx('b', "", x.ops...)), comes("k", x.want))
		seen := []one{tx('a', "", incr("k", 100)), tx('b', "a", append([]api.Op{zero("k")}, x.ops...)...)}
		wantAll(t, x.what+", behind another one", history(t, seen...), comes("k", x.want))
		beside := []one{tx('a', "", incr("k", 50), zero("k")), tx('b', "", x.ops...), tx('c', "", incr("k", 100))}
		wantAll(t, x.what+", beside others", history(t, beside...), comes("k", x.want+100))
		wantAll(t, x.what+", and zero", history(t, append(beside, tx('d', "ab", zero("k")))...), comes("k", 100))
	}
}

// P16.1: of what a transaction counted ahead of its zero, and of what it has seen, the zero leaves nothing, and all of what it hasn't.
func TestZeroAmongOthers(t *testing.T) {
	row := []one{tx('m', "", incr("k", 1), incr("kk", 1)), tx('n', "", incr("k", 2))}
	for _, name := range []byte("az") {
		wantAll(t, "behind", history(t, append(row, tx(name, "m", incr("k", 4), zero("k")))...), map[string]int64{"k": 2, "kk": 1})
		wantAll(t, "ahead", history(t, append(row, tx(name, "m", zero("k"), incr("k", 4)))...), map[string]int64{"k": 6, "kk": 1})
		wantAll(t, "between", history(t, append(row, tx(name, "m", incr("k", 4), zero("k"), incr("k", 8)))...), map[string]int64{"k": 10, "kk": 1})
	}
}

// P16.1: two zeros that have not seen one another: what either has seen counts no more, what neither has does, and what was counted behind the one the other one leaves.
func TestTwoZeros(t *testing.T) {
	row := []one{tx('m', "", incr("k", 1)), tx('n', "", incr("k", 2)), tx('o', "", incr("k", 4))}
	wantAll(t, "each another one", history(t, append(row, tx('a', "m", zero("k")), tx('z', "n", zero("k")))...), comes("k", 4))
	wantAll(t, "both the same one", history(t, append(row, tx('a', "m", zero("k")), tx('z', "m", zero("k")))...), comes("k", 6))
	wantAll(t, "one in common", history(t, append(row, tx('a', "mn", zero("k")), tx('z', "no", zero("k")))...), nil)
	wantAll(t, "counted behind both", history(t, append(row, tx('a', "mno", zero("k"), incr("k", 8)), tx('z', "mno", zero("k"), incr("k", 16)))...), comes("k", 24))
	wantAll(t, "counted ahead of both", history(t, append(row, tx('a', "m", incr("k", 8), zero("k")), tx('z', "m", incr("k", 16), zero("k")))...), comes("k", 6))
	wantAll(t, "joined", history(t, append(row, tx('a', "m", zero("k")), tx('z', "n", zero("k")), tx('b', "az"))...), comes("k", 4))
}

// ahead tells the letter ahead of that of a number, if there is one.
func ahead(i int) string {
	if i == 0 {
		return ""
	}
	return string('a' + rune(i-1))
}

// P16.1: sums go round at both ends, in one transaction and in several; N may be the least and the greatest number.
func TestRound(t *testing.T) {
	for _, x := range []struct {
		what string
		n    []int64
		want int64
	}{
		{"the greatest", []int64{math.MaxInt64}, math.MaxInt64},
		{"the least", []int64{math.MinInt64}, math.MinInt64},
		{"past the greatest", []int64{math.MaxInt64, 1}, math.MinInt64},
		{"past the greatest by more", []int64{math.MaxInt64, 10}, math.MinInt64 + 9},
		{"below the least", []int64{math.MinInt64, -1}, math.MaxInt64},
		{"below the least by more", []int64{math.MinInt64, -10}, math.MaxInt64 - 9},
		{"the greatest twice", []int64{math.MaxInt64, math.MaxInt64}, -2},
		{"the least twice", []int64{math.MinInt64, math.MinInt64}, 0},
		{"the least three times", []int64{math.MinInt64, math.MinInt64, math.MinInt64}, math.MinInt64},
		{"both ends", []int64{math.MaxInt64, math.MinInt64}, -1},
		{"all the way round", []int64{1 << 62, 1 << 62, 1 << 62, 1 << 62}, 0},
		{"all the way round, and one", []int64{1 << 62, 1 << 62, 1 << 62, 1 << 62, 1}, 1},
		{"there and back", []int64{math.MaxInt64, 1, -1}, math.MaxInt64},
		{"up to 0", []int64{5, -3, -2}, 0},
		{"up to 0 from the greatest", []int64{math.MaxInt64, -math.MaxInt64}, 0},
		{"0 alone", []int64{0}, 0},
		{"0 twice", []int64{0, 0}, 0},
	} {
		ops, apart, row := []api.Op{}, []one{}, []one{}
		for i, n := range x.n {
			ops = append(ops, incr("k", n))
			apart = append(apart, tx('a'+byte(i), "", incr("k", n)))
			row = append(row, tx('a'+byte(i), ahead(i), incr("k", n)))
		}
		wantAll(t, x.what+", by one", history(t, tx('a', "", ops...)), comes("k", x.want))
		wantAll(t, x.what+", by many", history(t, apart...), comes("k", x.want))
		wantAll(t, x.what+", in a row", history(t, row...), comes("k", x.want))
		undone := append(slices.Clone(row), tx('z', string(row[len(row)-1].name), zero("k")))
		wantAll(t, x.what+", and zero", history(t, undone...), nil)
		wantAll(t, x.what+", and zero beside", history(t, append(apart, tx('z', "", zero("k")))...), comes("k", x.want))
	}
}

// P16.2: a key is told once, rising byte by byte, if its counter doesn't come to 0; not, if it does, by itself, by a zero, or by going round.
func TestKeys(t *testing.T) {
	p := history(t,
		tx('b', "", incr("kk", 1), incr("l", 1), incr("\xff", 2), incr("gone", 1), incr("gone", 2), incr("k\x00", -1), incr("Z", 1), incr("round", math.MinInt64)),
		tx('a', "", incr("k", 0), incr("", -7), incr("kk", 2), incr("é", 1), incr("m", 1), incr("m", 2), incr("back", 5)),
		tx('c', "ab", zero("gone"), zero("never"), incr("k", 1), incr("\x00", 1), incr("back", -5), incr("nought", 0)),
		tx('d', "", incr("k", 3), incr("z", 3), zero("z"), incr("m", -9), zero("l"), incr("round", math.MinInt64)),
	)
	want := map[string]int64{"": -7, "\x00": 1, "Z": 1, "k": 4, "k\x00": -1, "kk": 3, "l": 1, "m": -6, "é": 1, "\xff": 2}
	wantAll(t, "many", p, want)
	wantKeys(t, "many", p, "", "\x00", "Z", "k", "k\x00", "kk", "l", "m", "é", "\xff")
	for _, key := range []string{"gone", "never", "back", "nought", "round", "z"} {
		wantValue(t, "many", p, key, 0)
	}
	wantAll(t, "at b", at(t, p, letters("b")), map[string]int64{"kk": 1, "l": 1, "\xff": 2, "gone": 3, "k\x00": -1, "Z": 1, "round": math.MinInt64})
	wantAll(t, "the key of no bytes alone", history(t, tx('a', "", incr("", 1))), comes("", 1))
	wantAll(t, "the key of no bytes, zero", history(t, tx('a', "", incr("", 1), incr("k", 2)), tx('b', "a", zero(""))), comes("k", 2))
}

// P16.1, P16.2: of keys of which one begins another each has its own counter.
func TestBeginnings(t *testing.T) {
	keys := []string{"", "\x00", "a", "a\x00", "a\x00\x00", "aa", "aaa", "ab", "b", "\xff", "\xff\xff"}
	ops, want := []api.Op{}, map[string]int64{}
	for i := range keys {
		key := keys[i*4%len(keys)]
		ops, want[key] = append(ops, incr(key, int64(i+1))), int64(i+1)
	}
	row := []one{tx('b', "", ops...)}
	wantAll(t, "all", history(t, row...), want)
	wantKeys(t, "all", history(t, row...), keys...)
	for _, key := range keys {
		less := maps.Clone(want)
		delete(less, key)
		wantAll(t, "one set to zero", history(t, append(row, tx('a', "b", zero(key)))...), less)
	}
}

// P16.3: operations of other kinds with the same key neither count nor undo, whether they have seen an OpIncr or were seen by one.
func TestOtherKinds(t *testing.T) {
	for _, kind := range otherKinds() {
		o := fitted(api.Op{Kind: kind, Key: "k"}, 9)
		wantAll(t, "alone", history(t, tx('a', "", o)), nil)
		wantAll(t, "behind", history(t, tx('a', "", incr("k", 5)), tx('b', "a", o)), comes("k", 5))
		wantAll(t, "ahead", history(t, tx('a', "", o), tx('b', "a", incr("k", 5))), comes("k", 5))
		wantAll(t, "within", history(t, tx('a', "", o, incr("k", 5), o)), comes("k", 5))
		wantAll(t, "beside", history(t, tx('a', "", o), tx('b', "", incr("k", 5)), tx('c', "", o)), comes("k", 5))
		wantAll(t, "zero", history(t, tx('a', "", incr("k", 5)), tx('b', "a", o), tx('c', "b", zero("k"), o)), nil)
	}
}

// P16.1: hashes are taken as they are told: the zero hash, and such as are alike but for one byte, are hashes as others.
func TestHashes(t *testing.T) {
	none, first, last := api.Hash{}, api.Hash{1}, api.Hash{31: 1}
	l := []api.Entry{behind(first, nil, nil, incr("k", 1)), behind(none, nil, nil, incr("k", 2)), behind(last, nil, nil, incr("k", 4))}
	wantAll(t, "apart", of(t, l), comes("k", 7))
	l = append(l, behind(api.Hash{255}, l, []api.Hash{none}, zero("k")))
	wantAll(t, "behind the zero hash", of(t, l), comes("k", 5))
}
