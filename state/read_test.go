package state_test

import (
	"bytes"
	"encoding/binary"
	"errors"
	"fmt"
	"math"
	"math/big"
	"math/rand/v2"
	"slices"
	"strings"
	"testing"

	"pleach/api"
	"pleach/state"
)

// told is what a cell says.
type told struct {
	texts []string
	n     int64
	items []api.Item
}

func (x told) same(y told) bool {
	return slices.Equal(x.texts, y.texts) && x.n == y.n && slices.Equal(x.items, y.items)
}

// bytes tells the Value of a cell of a kind that says this.
func (x told) bytes(kind int) []byte {
	switch kind {
	case api.CellCounter:
		return binary.AppendVarint(nil, x.n)
	case api.CellList:
		return itemsBytes(x.items)
	}
	return textsBytes(x.texts)
}

// row is a Value that is read as the words say, from a byte on; bad is what is met first.
type row struct {
	value []byte
	at    int
	bad   *api.Bad
}

// fail keeps what is wrong, where it is the first.
func (r *row) fail(is bool, why api.Errno, at int) {
	if is && r.bad == nil {
		r.bad = &api.Bad{Why: why, At: at}
	}
}

// number reads one that is at most so much.
func (r *row) number(most uint64) *big.Int {
	x, begin := new(big.Int), r.at
	for n := 1; r.bad == nil; n++ {
		if r.fail(r.at == len(r.value), api.ErrShort, begin); r.bad != nil {
			break
		}
		c := r.value[r.at]
		r.fail(n == 10 && c > 1, api.ErrOver, begin)
		x.Add(x, new(big.Int).Lsh(big.NewInt(int64(c&127)), uint(7*(n-1))))
		r.at++
		if c < 128 {
			r.fail(n > 1 && c == 0, api.ErrLong, begin)
			break
		}
	}
	r.fail(x.Cmp(new(big.Int).SetUint64(most)) > 0, api.ErrOver, begin)
	return x
}

// count reads how many there are; one is enough to go on with, where something is wrong.
func (r *row) count() int {
	n := r.number(4194304)
	r.fail(n.Sign() == 0, api.ErrField, 0)
	if r.bad != nil {
		return 0
	}
	return int(n.Int64())
}

// raw reads so many bytes.
func (r *row) raw(n int) []byte {
	r.fail(len(r.value)-r.at < n, api.ErrShort, r.at)
	if r.bad != nil {
		return nil
	}
	r.at += n
	return r.value[r.at-n : r.at]
}

func (r *row) text() string {
	n := r.number(65536)
	if r.bad != nil {
		return ""
	}
	return string(r.raw(int(n.Int64())))
}

// signed reads a number whose form is that of twice as much, or of less by one than twice as much below 0.
func (r *row) signed() int64 {
	x := r.number(math.MaxUint64)
	if x.Bit(0) == 1 {
		x.Neg(x.Add(x, big.NewInt(1)))
	}
	return x.Rsh(x, 1).Int64()
}

// readOf tells what the chapter's words say of a cell whose Kind is one.
func readOf(c api.Cell) (told, *api.Bad) {
	r, x := &row{value: c.Value}, told{}
	switch c.Kind {
	case api.CellCounter:
		x.n = r.signed()
		r.fail(x.n == 0, api.ErrField, 0)
	case api.CellList:
		for n := r.count(); n > 0 && r.bad == nil; n-- {
			i := api.Item{}
			copy(i.ID.Node[:], r.raw(32))
			at := r.at
			i.ID.Op = int(r.number(1024).Int64())
			r.fail(i.ID.Op == 0, api.ErrField, at)
			i.Text = r.text()
			x.items = append(x.items, i)
		}
	default:
		for n := r.count(); n > 0 && r.bad == nil; n-- {
			at := r.at
			x.texts = append(x.texts, r.text())
			if i := len(x.texts) - 2; c.Kind == api.CellSet && i >= 0 {
				r.fail(bytes.Compare([]byte(x.texts[i]), []byte(x.texts[i+1])) >= 0, api.ErrOrder, at)
			}
		}
	}
	r.fail(r.at < len(r.value), api.ErrRest, r.at)
	if r.bad != nil {
		return told{}, r.bad
	}
	return x, nil
}

// wantRead fails, if Read tells something else.
func wantRead(t *testing.T, what string, c api.Cell, want told) {
	t.Helper()
	texts, n, items, err := state.Read(c)
	if got := (told{texts, n, items}); err != nil || !got.same(want) {
		t.Errorf("%s: Read(%s): %.200q, %d, %d items, %v; want %.200q, %d, %d items", what, showCells([]api.Cell{c}), texts, n, len(items), err, want.texts, want.n, len(want.items))
	}
}

// wantBad fails, if Read tells another error, at another place, or anything beside it.
func wantBad(t *testing.T, what string, c api.Cell, why api.Errno, at int) {
	t.Helper()
	texts, n, items, err := state.Read(c)
	bad, ok := err.(*api.Bad)
	if !ok || bad == nil || *bad != (api.Bad{Why: why, At: at}) || !errors.Is(err, why) {
		t.Errorf("%s: Read(%s): %v; want error %d at %d", what, showCells([]api.Cell{c}), err, why, at)
	}
	if len(texts) != 0 || n != 0 || len(items) != 0 {
		t.Errorf("%s: Read(%s): %.200q, %d, %d items beside an error", what, showCells([]api.Cell{c}), texts, n, len(items))
	}
}

// wantReadWords fails, if Read of a cell tells something else than the words say; it tells whether they take it.
func wantReadWords(t *testing.T, c api.Cell) bool {
	t.Helper()
	x, bad := readOf(c)
	if bad != nil {
		wantBad(t, "words", c, bad.Why, bad.At)
		return false
	}
	wantRead(t, "words", c, x)
	return true
}

const zeroHash = "0000000000000000000000000000000000000000000000000000000000000000"

// P18.1: the chapter's examples.
func TestReadExamples(t *testing.T) {
	wantBad(t, "falls", cell(2, "", "02 01 62 01 61"), api.ErrOrder, 3)
	wantBad(t, "no texts", cell(1, "", "00"), api.ErrField, 0)
	wantBad(t, "more behind it", cell(1, "", "01 01 78 00"), api.ErrRest, 3)
	wantRead(t, "a counter", cell(3, "", "01"), told{n: -1})
	wantRead(t, "a register", cell(1, "k", "01 01 78"), told{texts: []string{"x"}})
	wantRead(t, "a set", cell(2, "k", "02 01 61 01 62"), told{texts: []string{"a", "b"}})
	wantRead(t, "a register of an empty text", cell(1, "l", "01 00"), told{texts: []string{""}})
}

// P18.1: of a Kind that is none the number itself is told, whatever the rest is.
func TestReadKinds(t *testing.T) {
	for _, kind := range kinds()[4:] {
		for _, value := range []string{"", "00", "01", "01 01 78", "80", "01 01 78 00"} {
			texts, n, items, err := state.Read(cell(kind, "k", value))
			if err != api.ErrKind || len(texts) != 0 || n != 0 || len(items) != 0 {
				t.Errorf("Kind %d, Value %s: %q, %d, %d items, %v", kind, value, texts, n, len(items), err)
			}
		}
	}
}

// P18.1: what is taken, right at the bounds too.
func TestReadTaken(t *testing.T) {
	long, item := strings.Repeat("t", api.MaxText), api.Item{ID: api.Ident{Node: number(7), Op: api.MaxOps}, Text: strings.Repeat("u", api.MaxText)}
	for what, x := range map[string]told{
		"texts":                 {texts: []string{"b", "a", "", "a", "\xff\x00"}},
		"a text, the longest":   {texts: []string{long, long}},
		"128 texts":             {texts: slices.Repeat([]string{"x"}, 128)},
		"a text of 127 bytes":   {texts: []string{long[:127]}},
		"a text of 128 bytes":   {texts: []string{long[:128]}},
		"as many as may be":     {texts: make([]string, 4194304)},
		"texts that rise":       {texts: []string{"", "\x00", "a", "a\x00", "aa", "b", "\xff"}},
		"one text alone":        {texts: []string{""}},
		"texts as numbers read": {texts: []string{"\x80", "\x80\x00"}},
	} {
		wantRead(t, what, api.Cell{Kind: api.CellRegister, Value: textsBytes(x.texts)}, x)
		if slices.IsSorted(x.texts) && len(slices.Compact(slices.Clone(x.texts))) == len(x.texts) {
			wantRead(t, what, api.Cell{Kind: api.CellSet, Value: textsBytes(x.texts)}, x)
		}
	}
	for _, n := range []int64{1, -1, 63, 64, -64, -65, 1 << 40, math.MaxInt64, math.MinInt64, math.MinInt64 + 1} {
		wantRead(t, "a counter", api.Cell{Kind: api.CellCounter, Value: binary.AppendVarint(nil, n)}, told{n: n})
	}
	for what, l := range map[string][]api.Item{
		"the longest": {item},
		"an item of the zero hash, a hash of ones": {{ID: api.Ident{Op: 1}}, {ID: api.Ident{Node: api.Hash(bytes.Repeat([]byte{0xff}, 32)), Op: 127}, Text: "x"}},
		"the same twice": {item, {ID: api.Ident{Op: 128}, Text: "b"}, {ID: api.Ident{Op: 128}, Text: "a"}, item},
		"many":           slices.Repeat([]api.Item{{ID: api.Ident{Node: number(1), Op: 1}, Text: "x"}}, 20000),
	} {
		wantRead(t, what, api.Cell{Kind: api.CellList, Value: itemsBytes(l)}, told{items: l})
	}
}

// P18.1: a cell's Key may be any, and is nothing to Read.
func TestReadAnyKey(t *testing.T) {
	for _, key := range []string{"", "k", "\xff\x00", strings.Repeat("k", api.MaxKey+1)} {
		wantRead(t, "a key", cell(1, key, "01 01 78"), told{texts: []string{"x"}})
		wantBad(t, "a key", cell(1, key, "01 01"), api.ErrShort, 2)
	}
}

// P18.1: each thing that may be wrong, at each place where it may stand.
func TestReadWrong(t *testing.T) {
	for _, c := range []struct {
		kinds []int
		value string
		why   api.Errno
		at    int
	}{
		{[]int{1, 2, 3, 4}, "", api.ErrShort, 0},
		{[]int{1, 2, 3, 4}, "80", api.ErrShort, 0},
		{[]int{1, 2, 3, 4}, "80 80 80 80 80 80 80 80 80", api.ErrShort, 0},
		{[]int{1, 2, 3, 4}, "00", api.ErrField, 0},
		{[]int{1, 2, 3, 4}, "00 00", api.ErrField, 0},
		{[]int{1, 2, 3, 4}, "80 00", api.ErrLong, 0},
		{[]int{1, 2, 3, 4}, "81 00", api.ErrLong, 0},
		{[]int{1, 2, 3, 4}, "81 80 80 00", api.ErrLong, 0},
		{[]int{1, 2, 3, 4}, "80 80 80 80 80 80 80 80 80 00", api.ErrLong, 0},
		{[]int{1, 2, 3, 4}, "80 80 80 80 80 80 80 80 80 02", api.ErrOver, 0},
		{[]int{1, 2, 3, 4}, "ff ff ff ff ff ff ff ff ff ff 01", api.ErrOver, 0},
		{[]int{1, 2, 4}, "ff ff ff ff ff ff ff ff ff 01", api.ErrOver, 0},
		{[]int{1, 2, 4}, "81 80 80 02", api.ErrOver, 0},
		{[]int{1, 2, 4}, "80 80 80 02", api.ErrShort, 4}, // as many as may be, that are not there
		{[]int{1, 2, 4}, "01", api.ErrShort, 1},
		{[]int{1, 2}, "01 80", api.ErrShort, 1},
		{[]int{1, 2}, "01 02 78", api.ErrShort, 2},
		{[]int{1, 2}, "01 80 80 04", api.ErrShort, 4}, // the longest text, that is not there
		{[]int{1, 2}, "01 81 80 04", api.ErrOver, 1},
		{[]int{1, 2}, "01 81 80 04" + strings.Repeat("78", 65537), api.ErrOver, 1},
		{[]int{1, 2}, "01 80 00", api.ErrLong, 1},
		{[]int{1, 2}, "01 81 00 78", api.ErrLong, 1},
		{[]int{1, 2}, "01 00 00", api.ErrRest, 2},
		{[]int{1, 2}, "01 01 78 ff ff", api.ErrRest, 3},
		{[]int{1, 2}, "02 00", api.ErrShort, 2},
		{[]int{1, 2}, "03 00 01 61 01", api.ErrShort, 5},
		{[]int{1, 2}, "02 01 61 81 00 62", api.ErrLong, 3},
		{[]int{1, 2}, "02 01 61 81 80 04", api.ErrOver, 3},
		{[]int{2}, "02 00 00", api.ErrOrder, 2},
		{[]int{2}, "02 01 61 01 61", api.ErrOrder, 3},
		{[]int{2}, "02 02 61 61 01 61", api.ErrOrder, 4},
		{[]int{2}, "02 01 61 00", api.ErrOrder, 3},
		{[]int{2}, "02 01 ff 01 7f", api.ErrOrder, 3},
		{[]int{2}, "03 01 61 01 62 01 61", api.ErrOrder, 5},
		{[]int{2}, "03 01 61 01 63 01 62", api.ErrOrder, 5},
		{[]int{3}, "01 01", api.ErrRest, 1},
		{[]int{3}, "ff ff ff ff ff ff ff ff ff 01 00", api.ErrRest, 10},
		{[]int{3}, "ff ff ff ff ff ff ff ff ff 02", api.ErrOver, 0},
		{[]int{4}, "01" + zeroHash[2:], api.ErrShort, 1},
		{[]int{4}, "01" + zeroHash, api.ErrShort, 33},
		{[]int{4}, "01" + zeroHash + "80", api.ErrShort, 33},
		{[]int{4}, "01" + zeroHash + "00", api.ErrField, 33},
		{[]int{4}, "01" + zeroHash + "81 00", api.ErrLong, 33},
		{[]int{4}, "01" + zeroHash + "81 08", api.ErrOver, 33},
		{[]int{4}, "01" + zeroHash + "80 08", api.ErrShort, 35},
		{[]int{4}, "01" + zeroHash + "01", api.ErrShort, 34},
		{[]int{4}, "01" + zeroHash + "01 02 78", api.ErrShort, 35},
		{[]int{4}, "01" + zeroHash + "01 80 00", api.ErrLong, 34},
		{[]int{4}, "01" + zeroHash + "01 81 80 04", api.ErrOver, 34},
		{[]int{4}, "01" + zeroHash + "80 08 81 80 04", api.ErrOver, 35},
		{[]int{4}, "01" + zeroHash + "01 01 78 00", api.ErrRest, 36},
		{[]int{4}, "02" + zeroHash + "01 01 78", api.ErrShort, 36},
		{[]int{4}, "02" + zeroHash + "01 01 78" + zeroHash + "00", api.ErrField, 68},
		{[]int{4}, "02" + zeroHash + "01 01 78" + zeroHash + "81 08", api.ErrOver, 68},
	} {
		for _, kind := range c.kinds {
			wantBad(t, "wrong", cell(kind, "k", c.value), c.why, c.at)
		}
	}
}

// P18.1: of several faults in one Value the first is told.
func TestReadFirstFault(t *testing.T) {
	for _, c := range []struct {
		kind  int
		value string
		why   api.Errno
		at    int
	}{
		{1, "00 80 00", api.ErrField, 0},                                      // no texts, and more behind it
		{3, "00 ff", api.ErrField, 0},                                         // a 0, and more behind it
		{4, "00" + zeroHash, api.ErrField, 0},                                 // no items, and more behind it
		{2, "03 01 62 01 61 01 60", api.ErrOrder, 3},                          // twice out of order
		{2, "03 01 62 01 61", api.ErrOrder, 3},                                // out of order, and too short
		{2, "02 01 62 01 61 00", api.ErrOrder, 3},                             // out of order, and more behind it
		{2, "03 01 62 01", api.ErrShort, 4},                                   // a text that is cut can't be out of order yet
		{2, "02 01 62 81 00 61", api.ErrLong, 3},                              // a length in a form too long, of a text out of order
		{2, "02 01 62 81 80 04", api.ErrOver, 3},                              // a length too great, of what isn't there
		{1, "02 81 80 04 80 00", api.ErrOver, 1},                              // too long a text, and a form too long
		{1, "81 80 80 02 00", api.ErrOver, 0},                                 // too many, which aren't there
		{4, "02" + zeroHash + "00 80 00", api.ErrField, 33},                   // Op 0, and a length in a form too long
		{4, "02" + zeroHash + "01 00" + zeroHash[2:], api.ErrShort, 35},       // cut within a hash
		{4, "02" + zeroHash + "00 00" + zeroHash + "81 08", api.ErrField, 33}, // Op 0, and one too great
	} {
		wantBad(t, "first", cell(c.kind, "", c.value), c.why, c.at)
	}
}

// things tells Values by the things that are read one behind the other; bytes behind their number are a thing of their own.
func things() map[int][]string {
	return map[int][]string{
		1: {"03", "80 01", strings.Repeat("78", 128), "00", "02", "61 62"},
		2: {"03", "01", "61", "03", "62 62 62", "82 01", strings.Repeat("63", 130)},
		3: {"ff ff ff ff ff ff ff ff ff 01"},
		4: {"02", zeroHash, "80 08", "02", "78 78", zeroHash[:62] + "ff", "01", "81 01", strings.Repeat("79", 129)},
	}
}

// P18.1: a Value that is cut anywhere: ErrShort is met where the thing begins that is cut; followed by more: ErrRest behind its end.
func TestReadCut(t *testing.T) {
	for kind, l := range things() {
		value, begins := []byte{}, []int{}
		for _, x := range l {
			begin := len(value)
			for _, c := range fromHex(x) {
				value, begins = append(value, c), append(begins, begin)
			}
		}
		if _, _, _, err := state.Read(api.Cell{Kind: kind, Value: value}); err != nil {
			t.Fatalf("kind %d, the whole Value: %v", kind, err)
		}
		for end, at := range begins {
			wantBad(t, "cut", api.Cell{Kind: kind, Value: value[:end]}, api.ErrShort, at)
		}
		for _, more := range []string{"00", "01", "80", "ff ff", "01 01 78"} {
			wantBad(t, "more", api.Cell{Kind: kind, Value: slices.Concat(value, fromHex(more))}, api.ErrRest, len(value))
		}
	}
}

// someValue tells one that may be a cell's.
func someValue(r *rand.Rand, kind int) []byte {
	x := told{n: any1(r, 1, -1, 64, int64(r.Uint64()), math.MinInt64)}
	for range any1(r, 1, 1, 2, 3, 5) {
		text := strings.Repeat(any1(r, "a", "b", "\x00", "\x80"), any1(r, 0, 1, 2, 3, r.IntN(200)))
		x.texts = append(x.texts, text)
		x.items = append(x.items, api.Item{ID: api.Ident{Node: number(r.IntN(300)), Op: any1(r, 1, 2, 127, 128, api.MaxOps)}, Text: text})
	}
	if kind == api.CellSet {
		slices.Sort(x.texts)
		x.texts = slices.Compact(x.texts)
	}
	return x.bytes(kind)
}

// P18.1, P18.2: Values of all sorts, with bytes turned, put in and taken out, are read as the words say; those that are taken have no other form, so that no two unlike ones tell the same.
func TestReadWords(t *testing.T) {
	r := chance()
	for kind := api.CellRegister; kind <= api.CellList; kind++ {
		taken, spoilt := 0, 0
		for range 8000 {
			c := api.Cell{Kind: kind, Value: someValue(r, kind)}
			for range r.IntN(3) {
				i, x := r.IntN(len(c.Value)), any1(r, 0, 1, 2, 8, 0x61, 0x80, 0x81, byte(r.Uint32()))
				switch r.IntN(4) {
				case 0:
					c.Value = slices.Insert(c.Value, i, x)
				case 1:
					c.Value = append(slices.Delete(c.Value, i, i+1), x)[:max(1, len(c.Value)-1)]
				default:
					c.Value[i] = x
				}
			}
			if !wantReadWords(t, c) {
				spoilt++
				continue
			}
			taken++
			texts, n, items, _ := state.Read(c)
			if again := (told{texts, n, items}).bytes(kind); !bytes.Equal(again, c.Value) {
				t.Errorf("%s: laid again %x", showCells([]api.Cell{c}), again)
			}
		}
		if t.Failed() {
			t.FailNow()
		}
		if taken < 2000 || spoilt < 500 {
			t.Errorf("kind %d: %d were taken, %d not", kind, taken, spoilt)
		}
	}
}

// P18.1, P18.2: all short Values of some bytes are read as the words say, and no two tell the same.
func TestReadShort(t *testing.T) {
	for kind := api.CellRegister; kind <= api.CellCounter; kind++ {
		tells, rows := map[string]string{}, [][]byte{{}}
		for ; len(rows) > 0 && len(rows[0]) <= 5; rows = rows[1:] {
			c := api.Cell{Kind: kind, Value: rows[0]}
			if wantReadWords(t, c) {
				texts, n, items, _ := state.Read(c)
				what := fmt.Sprintf("%q %d %v", texts, n, items)
				if was, is := tells[what]; is {
					t.Errorf("kind %d: %x and %x tell %s", kind, was, c.Value, what)
				}
				tells[what] = string(c.Value)
			}
			for _, x := range []byte{0, 1, 2, 3, 0x61, 0x80, 0x81} {
				rows = append(rows, append(slices.Clone(rows[0]), x))
			}
			if t.Failed() {
				t.FailNow()
			}
		}
		if len(tells) < 15 {
			t.Errorf("kind %d: only %d were taken", kind, len(tells))
		}
	}
}

// R1: Values of any bytes are read as the words say, however many.
func TestReadAny(t *testing.T) {
	r := chance()
	for range 20000 {
		c := api.Cell{Kind: 1 + r.IntN(4), Value: make([]byte, r.IntN(80))}
		for i := range c.Value {
			c.Value[i] = any1(r, byte(r.IntN(3)), byte(r.Uint32()))
		}
		wantReadWords(t, c)
	}
	for kind := 1; kind <= 4; kind++ {
		for _, x := range []byte{0, 1, 0x7f, 0x80, 0xff} {
			wantReadWords(t, api.Cell{Kind: kind, Value: bytes.Repeat([]byte{x}, 3000000)})
		}
	}
}
