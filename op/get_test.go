package op_test

import (
	"bytes"
	"errors"
	"math"
	"slices"
	"strings"
	"testing"

	"pleach/api"
	"pleach/op"
	"pleach/pack"
)

// wantOps: Get reads these operations, and stands behind them, at a byte of the whole.
func wantOps(t *testing.T, r *pack.In, want []api.Op, at int) {
	t.Helper()
	whole := r.At() + r.Left()
	l, err := op.Get(r)
	if err != nil || !sameOps(l, want) {
		t.Fatalf("Get: %s, %v, want %s", show(l), err, show(want))
	}
	if r.At() != at || r.Left() != whole-at {
		t.Fatalf("Get stands at %d with %d left, want %d", r.At(), r.Left(), at)
	}
}

// wantBad: Get tells that very error, and no operations.
func wantBad(t *testing.T, what string, r *pack.In, why api.Errno, at int) {
	t.Helper()
	l, err := op.Get(r)
	bad, ok := err.(*api.Bad)
	if !ok || bad == nil || *bad != (api.Bad{Why: why, At: at}) || !errors.Is(err, why) {
		t.Fatalf("%s: %v, want error %d at %d", what, err, why, at)
	}
	if len(l) != 0 {
		t.Fatalf("%s: %s beside an error", what, show(l))
	}
}

// wantWords: Get of a row, from a byte on, answers what the chapter's words say, whatever that is.
func wantWords(t *testing.T, row []byte, from int) {
	t.Helper()
	by := readTo(row, from)
	l, bad := getOf(by)
	if bad != nil {
		wantBad(t, "a row", readTo(row, from), bad.Why, bad.At)
		return
	}
	wantOps(t, readTo(row, from), l, by.At())
}

// readTo tells an In of a row that stands at a byte.
func readTo(row []byte, at int) *pack.In {
	r := pack.NewIn(row)
	if _, err := r.Raw(at); err != nil {
		panic(err)
	}
	return r
}

// P4.3: the chapter's examples, and each thing that may be wrong once, at each place where it may stand.
func TestGetExamples(t *testing.T) {
	for _, c := range []struct {
		row string
		why api.Errno
		at  int
	}{
		{"", api.ErrShort, 0},
		{"01 0a", api.ErrKind, 1},
		{"01", api.ErrShort, 1},
		{"81 08", api.ErrOver, 0},
		{"01 09 01 6c 00", api.ErrAt, 4},
		{"01 08 01 6c 01 78 01" + zeroHash, api.ErrAt, 6},
		{"01 09 01 6c 07 00", api.ErrShort, 5},
		{"01 01 81 80 04", api.ErrOver, 2},
		{"80", api.ErrShort, 0},
		{"80 00", api.ErrLong, 0},
		{"ff ff ff ff ff ff ff ff ff 01", api.ErrOver, 0},
		{"81 88 00 01 00 00", api.ErrLong, 0},
		{"01 00", api.ErrKind, 1},
		{"01 00 00 00", api.ErrKind, 1},
		{"01 ff", api.ErrKind, 1},
		{"01 81 00", api.ErrKind, 1}, // a Kind is a byte, no number
		{"02 02 00 0a", api.ErrKind, 3},
		{"02 02 00", api.ErrShort, 3},
		{"01 01", api.ErrShort, 2},
		{"01 01 80 00 00", api.ErrLong, 2},
		{"01 01 02 6b", api.ErrShort, 3},
		{"01 01 80 80 04", api.ErrShort, 5}, // a Key of MaxKey bytes, that are not there
		{"01 01 01 6b", api.ErrShort, 4},
		{"01 01 01 6b 80 00", api.ErrLong, 4},
		{"01 01 01 6b 02 76", api.ErrShort, 5},
		{"01 01 01 6b 81 80 04", api.ErrOver, 4},
		{"01 06 01 6b", api.ErrShort, 4},
		{"01 06 01 6b 80", api.ErrShort, 4},
		{"01 06 01 6b 80 00", api.ErrLong, 4},
		{"01 06 01 6b ff ff ff ff ff ff ff ff ff 02", api.ErrOver, 4},
		{"01 08 01 6c 01 78", api.ErrShort, 6},
		{"01 08 01 6c 01 78 80 00", api.ErrLong, 6},
		{"01 08 01 6c 01 78 81 08" + zeroHash, api.ErrOver, 6},
		{"01 08 01 6c 01 78 80 08" + zeroHash, api.ErrAt, 6},
		{"01 08 01 6c 01 78 80 08" + zeroHash[2:], api.ErrShort, 8},
		{"01 09 01 6c 01" + zeroHash, api.ErrAt, 4},
		{"01 09 01 6c 81 08", api.ErrOver, 4},
		{"01 09 01 6c 81 00", api.ErrLong, 4},
		{"02 08 01 6c 00 00 08 01 6d 00 01" + zeroHash, api.ErrAt, 10},
		{"02 08 01 6c 00 00 08 01 6c 00 02" + zeroHash, api.ErrAt, 10},
		{"02 01 01 6c 00 09 01 6c 01" + zeroHash, api.ErrAt, 8},
		{"02 0a 0a", api.ErrKind, 1},
	} {
		row := fromHex(c.row)
		wantBad(t, c.row, pack.NewIn(row), c.why, c.at)
		for _, n := range []int{1, 2, 33, 300} { // wherever it stands
			wantBad(t, c.row, readTo(append(bytes.Repeat([]byte{0xff}, n), row...), n), c.why, c.at+n)
		}
	}
}

// P4.3: rows that are taken, read from any place, and what stands behind them.
func TestGetTaken(t *testing.T) {
	insert := api.Op{Kind: api.OpInsert, Key: "l", Text: "x"}
	for _, c := range []struct {
		row  string
		want []api.Op
	}{
		{"00", nil},
		{"01 01 01 6b 01 76", []api.Op{{Kind: api.OpPut, Key: "k", Text: "v"}}},
		{"01 06 01 6b 01", []api.Op{{Kind: api.OpIncr, Key: "k", N: -1}}},
		{"01 06 00 ff ff ff ff ff ff ff ff ff 01", []api.Op{{Kind: api.OpIncr, N: math.MinInt64}}},
		{"01 06 00 fe ff ff ff ff ff ff ff ff 01", []api.Op{{Kind: api.OpIncr, N: math.MaxInt64}}},
		{"01 05 00", []api.Op{{Kind: api.OpWipe}}},
		{"01 08 01 6c 01 78 00", []api.Op{insert}},
		{"02 08 01 6c 01 78 00 09 01 6c 01" + zeroHash, []api.Op{insert, {Kind: api.OpDelete, Key: "l", At: api.Ident{Op: 1}}}},
		{"01 09 01 6c 80 08" + zeroHash[:62] + "01", []api.Op{{Kind: api.OpDelete, Key: "l", At: api.Ident{Node: h1, Op: 1024}}}},
		{"80 08" + strings.Repeat("07 01 6b", 1024), fill(1024)},
		{"01 03 80 80 04" + strings.Repeat("78", 65536) + "80 80 04" + strings.Repeat("78", 65536), []api.Op{{Kind: api.OpAdd, Key: long(65536), Text: long(65536)}}},
	} {
		row := fromHex(c.row)
		for _, from := range []int{0, 1, 300} {
			for _, behind := range []int{0, 1, 40} {
				whole := slices.Concat(make([]byte, from), row, bytes.Repeat([]byte{0xff}, behind))
				wantOps(t, readTo(whole, from), c.want, from+len(row))
			}
		}
	}
}

// P4.3: operations laid one list behind the other are read so.
func TestGetInARow(t *testing.T) {
	r := chance()
	o := pack.NewOut()
	lists, ends := [][]api.Op{}, []int{}
	for n := range 40 {
		l := someOps(r, n)
		if e := op.Put(o, l); e != api.OK {
			t.Fatal(e)
		}
		lists, ends = append(lists, l), append(ends, o.Len())
	}
	in := pack.NewIn(o.Done())
	for i, l := range lists {
		wantOps(t, in, l, ends[i])
	}
	if err := in.End(); err != nil {
		t.Error(err)
	}
	wantBad(t, "behind the end", in, api.ErrShort, o.Len())
}

// P4.3: a row of every kind, cut at every place: ErrShort is met where the thing begins that is cut.
func TestGetCut(t *testing.T) {
	things := []string{ // bytes behind their number are a thing of their own
		"0a",
		"01", "02", "6b 6b", "03", "76 76 76",
		"02", "00",
		"03", "80 01", strings.Repeat("61", 128), "00",
		"04", "01", "6b", "01", "76",
		"05", "01", "6b",
		"06", "00", "ff ff ff ff ff ff ff ff ff 01",
		"07", "00",
		"08", "01", "6c", "00", "00",
		"08", "00", "00", "80 08", zeroHash[:62] + "01",
		"09", "01", "6c", "08", zeroHash,
	}
	row, begins := []byte{}, []int{}
	for _, x := range things {
		begin := len(row)
		for _, c := range fromHex(x) {
			row, begins = append(row, c), append(begins, begin)
		}
	}
	if l, err := op.Get(pack.NewIn(row)); err != nil || len(l) != 10 {
		t.Fatalf("the whole row: %v", err)
	}
	for end, at := range begins {
		wantBad(t, "cut", pack.NewIn(row[:end]), api.ErrShort, at)
		wantBad(t, "cut", readTo(append([]byte("ahead"), row[:end]...), 5), api.ErrShort, at+5)
	}
}

// P4.3: many rows, cut at every place, against the chapter's words.
func TestGetCutWords(t *testing.T) {
	r := chance()
	for n := range 60 {
		row := laidOf(t, someOps(r, n%12))
		for end := range row {
			_, bad := getOf(pack.NewIn(row[:end]))
			if bad == nil || bad.Why != api.ErrShort {
				t.Fatalf("cut at %d of %d: the words say %v", end, len(row), bad)
			}
			wantWords(t, row[:end], 0)
		}
	}
}

// P4.3: many rows, with the byte at every place turned, against the chapter's words; from any place.
func TestGetTurned(t *testing.T) {
	r := chance()
	told := map[api.Errno]int{}
	for n := range 60 {
		row := laidOf(t, someOps(r, n%12))
		from := r.IntN(9)
		whole := append(bytes.Repeat([]byte{0x80}, from), row...)
		for i := from; i < len(whole); i++ {
			was := whole[i]
			for _, x := range []byte{0, 1, 7, 8, 9, 10, 0x7f, 0x80, 0x81, 0xff, was ^ 1, was ^ 0x80, was + 1, byte(r.Uint32())} {
				whole[i] = x
				_, bad := getOf(readTo(whole, from))
				if bad == nil {
					bad = &api.Bad{}
				}
				told[bad.Why]++
				wantWords(t, whole, from)
			}
			whole[i] = was
		}
	}
	for _, why := range []api.Errno{api.OK, api.ErrShort, api.ErrLong, api.ErrOver, api.ErrKind, api.ErrAt} {
		if told[why] < 100 {
			t.Errorf("error %d: only %d times", why, told[why])
		}
	}
}

// P4.3: a row of every kind with each byte turned to each other one.
func TestGetEveryByte(t *testing.T) {
	row := laidOf(t, append(allKinds(), api.Op{Kind: 8, Key: "k", At: api.Ident{Op: 8}}))
	for i, was := range row {
		for x := range 256 {
			row[i] = byte(x)
			wantWords(t, row, 0)
		}
		row[i] = was
	}
}

// P4.3: each number of a row in a longer form than need be is told where it begins.
func TestGetLong(t *testing.T) {
	hash := string(h1[:])
	parts := []string{ // a number, and what stands behind it
		"\x04", "\x01",
		"\x01", "k",
		"\x01", "v\x06",
		"\x00", "",
		"\x05", "\x08",
		"\x02", "ll",
		"\x00", "",
		"\x03", hash + "\x09",
		"\x01", "l",
		"\x07", hash,
	}
	if l, err := op.Get(pack.NewIn([]byte(strings.Join(parts, "")))); err != nil || len(l) != 4 {
		t.Fatalf("the row as it should be: %v", err)
	}
	for i := 0; i < len(parts); i += 2 {
		ahead, behind := strings.Join(parts[:i], ""), strings.Join(parts[i+1:], "")
		for more := range 9 {
			longer := string([]byte{parts[i][0] | 0x80}) + strings.Repeat("\x80", more) + "\x00"
			wantBad(t, "a longer form", pack.NewIn([]byte(ahead+longer+behind)), api.ErrLong, len(ahead))
		}
	}
}

// P4.3: Keys and Texts around their bounds, and how many operations there are.
func TestGetBounds(t *testing.T) {
	for _, kind := range []int{1, 2, 3, 4, 5, 6, 7, 8} {
		for _, n := range []int{0, 1, 127, 128, 65535, 65536} {
			l := []api.Op{{Kind: kind, Key: long(n)}}
			row := formOf(l)
			wantOps(t, pack.NewIn(row), l, len(row))
		}
		row := formOf([]api.Op{{Kind: kind, Key: long(65537)}})
		wantBad(t, "a Key of one more", pack.NewIn(row), api.ErrOver, 2)
	}
	for _, kind := range hasText {
		for _, n := range []int{0, 1, 127, 128, 65535, 65536} {
			l := []api.Op{{Kind: kind, Key: "k", Text: long(n)}}
			row := formOf(l)
			wantOps(t, pack.NewIn(row), l, len(row))
		}
		row := formOf([]api.Op{{Kind: kind, Key: "k", Text: long(65537)}})
		wantBad(t, "a Text of one more", pack.NewIn(row), api.ErrOver, 4)
	}
	for _, n := range []int{0, 1, 127, 128, 1023, 1024} {
		row := formOf(fill(n))
		wantOps(t, pack.NewIn(row), fill(n), len(row))
	}
	wantBad(t, "one more operation", pack.NewIn(formOf(fill(1025))), api.ErrOver, 0)
	wantBad(t, "far more operations", pack.NewIn(formOf(fill(3000))), api.ErrOver, 0)
}

// P4.3: an At of every sort, at every number that counts.
func TestGetPlaces(t *testing.T) {
	for _, kind := range []int{8, 9} {
		for _, key := range []string{"l", "m", ""} {
			for _, node := range []api.Hash{{}, h1, {0: 1}, {16: 128}} {
				for _, n := range []int{0, 1, 2, 3, 4, 5, 6, 7, 8, 9, 1023, 1024, 1025} {
					l := append(ahead(), api.Op{Kind: kind, Key: key, At: api.Ident{Node: node, Op: n}})
					row := formOf(l)
					begin := len(formOf(ahead())) + 1 + 1 + len(key)
					if kind == 8 {
						begin++ // a Text of no bytes
					}
					may := n == 0 && kind == 8 || node != api.Hash{} && n > 0 || key == "l" && (n == 1 || n == 4) || key == "m" && n == 2
					if n == 0 {
						l[7].At.Node = api.Hash{} // it isn't laid
					}
					switch {
					case n > 1024:
						wantBad(t, "an Op of one more", pack.NewIn(row), api.ErrOver, begin)
					case !may:
						wantBad(t, "an At that may not be", pack.NewIn(row), api.ErrAt, begin)
					default:
						wantOps(t, pack.NewIn(row), l, len(row))
					}
				}
			}
		}
	}
}

// P4.3: an error that was told ahead of the call is told again, the very same.
func TestGetBehindError(t *testing.T) {
	row := laidOf(t, allKinds())
	for what, spoil := range map[string]func(r *pack.In) error{
		"End":      func(r *pack.In) error { return r.End() },
		"Raw(-1)":  func(r *pack.In) error { _, err := r.Raw(-1); return err },
		"Raw, far": func(r *pack.In) error { _, err := r.Raw(len(row) + 1); return err },
		"Number":   func(r *pack.In) error { _, err := r.Number(0); return err },
		"Text":     func(r *pack.In) error { _, err := r.Text(0); return err },
	} {
		r := pack.NewIn(row)
		told := spoil(r)
		at := r.At()
		if told == nil {
			t.Fatalf("%s tells nothing", what)
		}
		for range 2 {
			if l, err := op.Get(r); err != told || len(l) != 0 {
				t.Errorf("behind the error of %s: %s, %v", what, show(l), err)
			}
		}
		if r.At() != at || r.Left() != len(row)-at || r.End() != told {
			t.Errorf("behind the error of %s: it stands at %d", what, r.At())
		}
	}
	r := pack.NewIn(row[:len(row)-1])
	_, first := op.Get(r)
	if l, again := op.Get(r); first == nil || again != first || len(l) != 0 || r.End() != first {
		t.Errorf("pack's error, told by Get: %v, then %v", first, again)
	}
}

// P4.6: what Get answers is new memory, the room behind it too; what was handed to the In may be written over.
func TestGetMemory(t *testing.T) {
	r := chance()
	for n := range 40 {
		l := someOps(r, n)
		row := laidOf(t, l)
		twice := append(slices.Clone(row), row...)
		in := pack.NewIn(twice)
		a, err := op.Get(in)
		if err != nil {
			t.Fatal(err)
		}
		clear(twice)
		if !sameOps(a, l) {
			t.Fatalf("%d operations: changed with the row", n)
		}
		room := a[:cap(a)]
		clear(room)
		b, err := op.Get(in)
		if err != nil || !sameOps(b, l) {
			t.Fatalf("%d operations: an answer shares memory with the In", n)
		}
		for i := range room {
			room[i].Kind = 77
		}
		if !sameOps(b, l) {
			t.Fatalf("%d operations: two answers share memory", n)
		}
	}
}
