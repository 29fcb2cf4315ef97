package roots_test

import (
	"bytes"
	"slices"
	"strings"
	"testing"

	"pleach/api"
	"pleach/roots"
)

// asked is a kind and a key.
type asked struct {
	kind int
	key  string
}

// P19.1: the chapter's examples 1 and 2.
func TestRootExamples(t *testing.T) {
	none := api.Hash(unhex("4322fd2bc0a137d1375b37b3b2e2b4715b3d3dd7ca9682438d4fea0f8437fad3"))
	rootIs(t, "none", nil, none)
	rootIs(t, "none", []api.Cell{}, none)
	a := unhex("8c531d791cd698e63a1de1cc6e3659b6d3f740e189e476b1770ba35d853642e0")
	rootIs(t, "a", abc("a"), h(unhex("02 01 00 00 00 00 00 00 00"), a))
	b, c := h(unhex("00 01 01 62 01 02")), h(unhex("00 01 01 63 01 03"))
	ab := h(unhex("01"), a, b[:])
	rootIs(t, "a, b", abc("ab"), h(unhex("02 02 00 00 00 00 00 00 00"), ab[:]))
	top := h(unhex("01"), ab[:], c[:])
	rootIs(t, "a, b, c", abc("abc"), h(unhex("02 03 00 00 00 00 00 00 00"), top[:]))
}

// P19.2: the chapter's examples 2 and 3.
func TestFindExamples(t *testing.T) {
	l := abc("abc")
	a, b, c := leafHash(l[0]), leafHash(l[1]), leafHash(l[2])
	leaves := []api.Leaf{
		{Number: 0, Cell: l[0], Path: []api.Hash{b, c}},
		{Number: 1, Cell: l[1], Path: []api.Hash{a, c}},
		{Number: 2, Cell: l[2], Path: []api.Hash{innerHash(a, b)}},
	}
	for _, x := range []struct {
		kind int
		key  string
		want []api.Leaf
	}{
		{api.CellRegister, "a", leaves[:1]},
		{api.CellRegister, "b", leaves[1:2]},
		{api.CellRegister, "c", leaves[2:]},
		{api.CellRegister, "bb", leaves[1:]},
		{api.CellRegister, "ab", leaves[:2]},
		{api.CellRegister, "0", leaves[:1]},
		{api.CellRegister, "", leaves[:1]},
		{api.CellRegister, "d", leaves[2:]},
		{api.CellSet, "", leaves[2:]},
		{api.CellSet, "b", leaves[2:]},
		{api.CellList, "a", leaves[2:]},
	} {
		findIs(t, "a, b, c", l, x.kind, x.key, api.Witness{Cells: 3, Leaves: x.want})
	}
	for kind := 1; kind <= 4; kind++ {
		findIs(t, "none", nil, kind, "a", api.Witness{})
		findIs(t, "none", []api.Cell{}, kind, "", api.Witness{})
	}
}

// P19.3: the chapter's example 4, and what the witnesses of example 3 tell.
func TestCheckExamples(t *testing.T) {
	l := abc("abc")
	root := rootOf(l)
	checkIs(t, "b", root, 1, "b", witnessOf(l, 1, "b"), l[1], true, api.OK)
	for _, x := range []asked{{1, "bb"}, {1, "0"}, {2, ""}} {
		checkIs(t, "nothing", root, x.kind, x.key, witnessOf(l, x.kind, x.key), api.Cell{}, false, api.OK)
	}
	checkIs(t, "none", rootOf(nil), 1, "b", api.Witness{}, api.Cell{}, false, api.OK)
	checkIs(t, "none", rootOf(nil), 4, "", api.Witness{Leaves: []api.Leaf{}}, api.Cell{}, false, api.OK)

	w := witnessOf(l, 1, "b")
	w.Cells = 4
	refused(t, "Cells 4", root, 1, "b", w)
	w = witnessOf(l, 1, "b")
	w.Leaves[0].Number = 0
	refused(t, "Number 0", root, 1, "b", w)
	w = witnessOf(l, 1, "b")
	w.Leaves[0].Path = append(w.Leaves[0].Path, root)
	refused(t, "three hashes", root, 1, "b", w)
	w = witnessOf(l, 1, "b")
	w.Leaves = append(w.Leaves, leafOf(l, 2))
	refused(t, "b and c", root, 1, "b", w)
}

// P19.1, P19.2: the chapter's example 5.
func TestWrongExamples(t *testing.T) {
	wrongList(t, "b, a", abc("ba"), api.ErrOrder)
	wrongList(t, "a, a", abc("aa"), api.ErrOrder)
	wrongList(t, "Kind 0", []api.Cell{{}}, api.ErrKind)
	if w, e := roots.Find(abc("abc"), 5, "b"); e != api.ErrKind || w.Cells != 0 || w.Leaves != nil {
		t.Errorf("Find of kind 5: %v, %v", w, e)
	}
}

// P19.1, P19.2: cells in all numbers around the powers of two, each asked for, and what stands ahead of it and behind it.
func TestNumbers(t *testing.T) {
	for _, n := range []int{0, 1, 2, 3, 4, 5, 6, 7, 8, 9, 10, 11, 12, 13, 14, 15, 16, 17, 31, 32, 33, 63, 64, 65, 127, 128, 129} {
		l := rising(api.CellCounter, n)
		rootIs(t, "rising", l, rootOf(l))
		for _, c := range l {
			for _, key := range []string{c.Key, c.Key + "\x00", c.Key[:3], c.Key[:3] + "\xff"} {
				findIs(t, "rising", l, api.CellCounter, key, witnessOf(l, api.CellCounter, key))
			}
		}
		for _, kind := range []int{1, 2, 4} {
			findIs(t, "another kind", l, kind, "0001", witnessOf(l, kind, "0001"))
		}
	}
}

// P19.1: n goes into the root in eight bytes, of which the second and third count, too.
func TestManyCells(t *testing.T) {
	l := []api.Cell{}
	for i := range 66000 {
		l = append(l, cell(1, string([]byte{byte(i >> 16), byte(i >> 8), byte(i)}), ""))
	}
	for _, n := range []int{255, 256, 257, 4095, 4096, 4097, 65535, 65536, 65537, 66000} {
		rootIs(t, "many", l[:n], rootOf(l[:n]))
	}
	root := rootOf(l)
	for _, i := range []int{0, 65535, 65536, 65999} {
		w, e := roots.Find(l, 1, l[i].Key)
		if e != api.OK || !sameWitness(w, witnessOf(l, 1, l[i].Key)) {
			t.Errorf("Find number %d: %v", i, e)
		}
		checkIs(t, "many", root, 1, l[i].Key, w, l[i], true, api.OK)
		w, e = roots.Find(l, 1, l[i].Key+"\x00")
		if e != api.OK || !sameWitness(w, witnessOf(l, 1, l[i].Key+"\x00")) {
			t.Errorf("Find behind number %d: %v", i, e)
		}
		checkIs(t, "many", root, 1, l[i].Key+"\x00", w, api.Cell{}, false, api.OK)
	}
}

// P19.1, P19.2: Keys and Values of no bytes, of any bytes, and of so many that their number has two bytes or three; nil and no bytes are one Value.
func TestKeysAndValues(t *testing.T) {
	long := strings.Repeat("\xfe\x00", 32768)
	for _, key := range []string{"", "\x00", "\xff\xfe", "ä", long[:127], long[:128], long[:16383], long[:16384], long} {
		for _, value := range []string{"", "\x00", "\xff", long[:127], long[:128], long[:16384], long} {
			for kind := 1; kind <= 4; kind++ {
				l := []api.Cell{cell(kind, key, value)}
				rootIs(t, "one cell", l, rootOf(l))
				w, e := roots.Find(l, kind, key)
				if e != api.OK || !sameWitness(w, witnessOf(l, kind, key)) {
					t.Fatalf("Find of a key of %d bytes: %v", len(key), e)
				}
				checkIs(t, "one cell", rootOf(l), kind, key, w, l[0], true, api.OK)
			}
		}
	}
	no := []api.Cell{{Kind: 2, Key: "k"}}
	rootIs(t, "a nil Value", no, rootOf([]api.Cell{cell(2, "k", "")}))
	findIs(t, "a nil Value", no, 2, "k", witnessOf([]api.Cell{cell(2, "k", "")}, 2, "k"))
}

// P19.1: what stands in one field is told from what stands in the next one, and a list from the one that has a cell less or more.
func TestRootsDiffer(t *testing.T) {
	lists := [][]api.Cell{
		nil,
		{cell(1, "", "")},
		{cell(2, "", "")},
		{cell(1, "a", "")},
		{cell(1, "", "a")},
		{cell(1, "a", "b")},
		{cell(1, "ab", "")},
		{cell(1, "", "ab")},
		{cell(1, "\x01a", "")},
		{cell(1, "", "\x01a")},
		{cell(1, "", ""), cell(1, "a", "")},
		{cell(1, "", ""), cell(2, "", "")},
		{cell(1, "", ""), cell(1, "a", ""), cell(2, "", "")},
		{cell(1, "a", "x"), cell(1, "b", "y")},
		{cell(1, "a", "y"), cell(1, "b", "x")},
	}
	known := map[api.Hash]int{}
	for i, l := range lists {
		root, e := roots.Root(l)
		if other, is := known[root]; is || e != api.OK {
			t.Errorf("lists %d and %d: %v", other, i, e)
		}
		known[root] = i
	}
}

// P19.1 to P19.3: Keys of which one is the beginning of another, in unlike Kinds: each place among them is asked for.
func TestPlaces(t *testing.T) {
	l := []api.Cell{
		cell(1, "", "1"), cell(1, "\x00", "2"), cell(1, "a", "3"), cell(1, "a\x00", "4"), cell(1, "aa", "5"), cell(1, "b", "6"), cell(1, "\xff", "7"),
		cell(3, "", "8"), cell(3, "a", "9"), cell(4, "a", "10"), cell(4, "a\xff", "11"),
	}
	keys := []string{"", "\x00", "\x00\x00", "A", "a", "a\x00", "a\x00\x00", "aa", "ab", "a\xff", "a\xff\x00", "b", "ba", "\x7f", "\x80", "\xff", "\xff\xff"}
	for from := range l {
		for to := from; to <= len(l); to++ {
			part := l[from:to:to]
			root := rootOf(part)
			rootIs(t, "a part", part, root)
			for kind := 1; kind <= 4; kind++ {
				for _, key := range keys {
					want := witnessOf(part, kind, key)
					findIs(t, "a part", part, kind, key, want)
					at := slices.IndexFunc(part, func(c api.Cell) bool { return c.Kind == kind && c.Key == key })
					if at < 0 {
						checkIs(t, "a part", root, kind, key, want, api.Cell{}, false, api.OK)
					} else {
						checkIs(t, "a part", root, kind, key, want, part[at], true, api.OK)
					}
				}
			}
		}
	}
}

// wrongList fails, if a list of cells is taken, or refused for another reason.
func wrongList(t *testing.T, what string, l []api.Cell, want api.Errno) {
	t.Helper()
	if root, e := roots.Root(l); e != want || root != (api.Hash{}) {
		t.Errorf("%s: Root: %x, %v, want %v", what, root, e, want)
	}
	for kind := 1; kind <= 4; kind++ {
		if w, e := roots.Find(l, kind, "a"); e != want || w.Cells != 0 || w.Leaves != nil {
			t.Errorf("%s: Find: %v, %v, want %v", what, w, e, want)
		}
	}
	for _, kind := range wrongKinds() {
		if w, e := roots.Find(l, kind, "a"); e != api.ErrKind || w.Cells != 0 || w.Leaves != nil {
			t.Errorf("%s: Find of kind %d: %v, %v", what, kind, w, e)
		}
	}
}

// wrongKinds tells kinds of which no cell is.
func wrongKinds() []int {
	return []int{0, 5, -1, 6, 255, 256, 257, 1 << 32, 1<<32 + 1, -1 << 63, 1<<63 - 1}
}

// P19.1, P19.2: a Kind that is none, wherever it stands, comes ahead of an order that may not be.
func TestWrongKinds(t *testing.T) {
	for _, kind := range wrongKinds() {
		for at := range 6 {
			l := rising(2, 5)
			l = slices.Insert(l, at, cell(kind, "0002x", "v"))
			wrongList(t, "one of a kind that is none", l, api.ErrKind)
			slices.Reverse(l)
			wrongList(t, "reversed", l, api.ErrKind)
		}
		wrongList(t, "alone", []api.Cell{cell(kind, "", "")}, api.ErrKind)
		wrongList(t, "behind a cell that stands twice", append(abc("aa"), cell(kind, "z", "")), api.ErrKind)
		wrongList(t, "ahead of a fall", append([]api.Cell{cell(kind, "z", "")}, abc("cb")...), api.ErrKind)
		wrongList(t, "twice", []api.Cell{cell(kind, "a", ""), cell(kind, "a", "")}, api.ErrKind)
	}
}

// P19.1, P19.2: lists that fall, or have a cell twice, at any place.
func TestWrongOrder(t *testing.T) {
	for n := 2; n <= 9; n++ {
		for at := 1; at < n; at++ {
			l := rising(3, n)
			l[at-1], l[at] = l[at], l[at-1]
			wrongList(t, "two turned round", l, api.ErrOrder)
			l = rising(3, n)
			l[at].Key = l[at-1].Key
			wrongList(t, "a Key twice", l, api.ErrOrder)
			l = rising(3, n)
			l[at].Kind = 2
			wrongList(t, "a Kind that falls", l, api.ErrOrder)
		}
	}
	wrongList(t, "a beginning behind what goes on", []api.Cell{cell(1, "ab", ""), cell(1, "a", "")}, api.ErrOrder)
	wrongList(t, "the Key rises, the Kind falls", []api.Cell{cell(2, "a", ""), cell(1, "b", "")}, api.ErrOrder)
	wrongList(t, "bytes are compared without a sign", []api.Cell{cell(1, "\x80", ""), cell(1, "\x7f", "")}, api.ErrOrder)
	wrongList(t, "the Values rise", []api.Cell{cell(1, "a", "1"), cell(1, "a", "2")}, api.ErrOrder)
	wrongList(t, "the first and the last one", []api.Cell{cell(1, "a", ""), cell(1, "b", ""), cell(1, "a", "")}, api.ErrOrder)
	l := []api.Cell{cell(1, "b", ""), cell(2, "a", ""), cell(2, "b", ""), cell(4, "", "")}
	rootIs(t, "the Kind rises, the Key falls", l, rootOf(l))
}

// P19.3: of a kind that is none Check tells ErrKind, whatever the witness is.
func TestCheckWrongKinds(t *testing.T) {
	l := abc("abc")
	bad := witnessOf(l, 1, "b")
	bad.Leaves[0].Path = nil
	odd := witnessOf(l, 1, "b")
	for _, kind := range wrongKinds() {
		odd.Leaves[0].Cell.Kind = kind
		for _, w := range []api.Witness{witnessOf(l, 1, "b"), bad, odd, {}, {Cells: -1}} {
			checkIs(t, "a kind that is none", rootOf(l), kind, "b", w, api.Cell{}, false, api.ErrKind)
			checkIs(t, "a kind that is none", api.Hash{}, kind, "b", w, api.Cell{}, false, api.ErrKind)
		}
	}
}

// P19.1: the Values count, byte by byte.
func TestValuesCount(t *testing.T) {
	l := rising(4, 7)
	l[5].Value = bytes.Repeat([]byte{7}, 200)
	root := rootOf(l)
	for i := range l {
		for k := range l[i].Value {
			other := copyCells(l)
			other[i].Value[k] ^= 0x40
			rootIs(t, "a byte turned", other, rootOf(other))
			if rootOf(other) == root {
				t.Fatal("the words don't tell it")
			}
		}
	}
}
