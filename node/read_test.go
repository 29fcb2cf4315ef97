package node_test

import (
	"bytes"
	"errors"
	"slices"
	"strings"
	"testing"

	"pleach/api"
	"pleach/node"
	"pleach/sha"
)

// wantBad: Decode and Entry tell that very error, and nothing beside it.
func wantBad(t *testing.T, what string, row []byte, why api.Errno, at int) {
	t.Helper()
	n, err := node.Decode(row)
	wantThat(t, "Decode of "+what, err, why, at)
	if !sameNode(n, api.Node{}) {
		t.Fatalf("Decode of %s: %s beside an error", what, show(n))
	}
	e, err := node.Entry(row)
	wantThat(t, "Entry of "+what, err, why, at)
	if e.ID != (api.Hash{}) || !sameNode(e.Node, api.Node{}) {
		t.Fatalf("Entry of %s: %x, %s beside an error", what, e.ID, show(e.Node))
	}
}

// wantThat: an error is a *api.Bad of that number and place.
func wantThat(t *testing.T, what string, err error, why api.Errno, at int) {
	t.Helper()
	bad, ok := err.(*api.Bad)
	if !ok || bad == nil || *bad != (api.Bad{Why: why, At: at}) || !errors.Is(err, why) {
		t.Fatalf("%s: %v, want error %d at %d", what, err, why, at)
	}
}

// wantNode: Decode and Entry of a row answer a transaction, with its hash.
func wantNode(t *testing.T, row []byte, want api.Node) {
	t.Helper()
	n, err := node.Decode(row)
	if err != nil || !sameNode(n, want) {
		t.Fatalf("Decode of %.60x: %s, %v, want %s", row, show(n), err, show(want))
	}
	e, err := node.Entry(row)
	if err != nil || !sameNode(e.Node, want) || e.ID != sha.Of(row) {
		t.Fatalf("Entry of %.60x: %x, %s, %v", row, e.ID, show(e.Node), err)
	}
}

// wantWords: Decode of a row answers what the chapter's words say, whatever that is; it tells which error that was.
func wantWords(t *testing.T, row []byte) api.Errno {
	t.Helper()
	n, bad := decodeOf(row)
	if bad != nil {
		wantBad(t, "a row", row, bad.Why, bad.At)
		return bad.Why
	}
	wantNode(t, row, n)
	return api.OK
}

// P5.3: the chapter's examples, and each thing that may be wrong once.
func TestDecodeExamples(t *testing.T) {
	hash1 := zeroHash[:62] + "01"
	for _, c := range []struct {
		row string
		why api.Errno
		at  int
	}{
		{"", api.ErrShort, 0},
		{"02", api.ErrForm, 0},
		{"01", api.ErrShort, 1},
		{"01 09", api.ErrAuthor, 1},
		{"01 01 00", api.ErrClock, 2},
		{"01 01 81 20", api.ErrOver, 2},
		{"01 01 01 01", api.ErrClock, 2},
		{"01 01 02 00", api.ErrClock, 2},
		{"01 01 02 41", api.ErrOver, 3},
		{"01 01 02 01 00", api.ErrShort, 4},
		{"01 01 02 02" + hash1 + zeroHash, api.ErrParents, 36},
		{"01 01 01 00 00 00", api.ErrRest, 5},
		{"01 01 81 00 00 01 01 01 6b 01 76", api.ErrLong, 2}, // the document's example 4
		{"00", api.ErrForm, 0},
		{"81 00", api.ErrForm, 0},
		{"00 09 00 41", api.ErrForm, 0},
		{"01 00", api.ErrAuthor, 1},
		{"01 ff 00 41", api.ErrAuthor, 1},
		{"01 81 00", api.ErrAuthor, 1}, // an author is a byte, no number
		{"01 08", api.ErrShort, 2},
		{"01 01 80", api.ErrShort, 2},
		{"01 01 80 00", api.ErrLong, 2},
		{"01 01 ff ff ff ff ff ff ff ff ff 01", api.ErrOver, 2},
		{"01 01 ff ff ff ff ff ff ff ff ff 02", api.ErrOver, 2},
		{"01 01 00 41", api.ErrClock, 2},
		{"01 01 01", api.ErrShort, 3},
		{"01 01 01 80", api.ErrShort, 3},
		{"01 01 01 80 00", api.ErrLong, 3},
		{"01 01 01 41", api.ErrOver, 3}, // and not ErrClock
		{"01 01 ac 02", api.ErrShort, 4},
		{"01 01 ac 02 41", api.ErrOver, 4},
		{"01 01 ac 02 00 00", api.ErrClock, 2},
		{"01 01 01 40", api.ErrClock, 2},
		{"01 01 02 40", api.ErrShort, 4},
		{"01 01 02 01" + zeroHash[:62], api.ErrShort, 4},
		{"01 01 02 01" + zeroHash, api.ErrShort, 36},
		{"01 01 02 02" + zeroHash + zeroHash[:62], api.ErrShort, 36},
		{"01 01 02 02" + zeroHash + zeroHash, api.ErrParents, 36},
		{"01 01 02 03" + zeroHash + hash1 + hash1, api.ErrParents, 68},
		{"01 01 02 03" + zeroHash + zeroHash, api.ErrParents, 36}, // ahead of what is cut off
		{"01 01 ac 02 02" + hash1 + zeroHash + "80 00", api.ErrParents, 37},
		{"01 01 01 00", api.ErrShort, 4},
		{"01 01 01 00 80 00", api.ErrLong, 4},
		{"01 01 01 00 81 08", api.ErrOver, 4},
		{"01 01 01 00 01 0a", api.ErrKind, 5},
		{"01 01 01 00 01 09 00 00 00", api.ErrAt, 7},
		{"01 01 02 01" + hash1 + "01 01 81 80 04", api.ErrOver, 38},
		{"01 01 02 01" + hash1 + "00 01", api.ErrRest, 37},
		{"01 01 01 00 01 01 01 6b 01 76 01 01", api.ErrRest, 10},
	} {
		wantBad(t, c.row, fromHex(c.row), c.why, c.at)
		wantWords(t, fromHex(c.row))
	}
}

// P5.3: blocks that are taken.
func TestDecodeTaken(t *testing.T) {
	for _, c := range []struct {
		row  string
		want api.Node
	}{
		{"01 01 01 00 00", api.Node{Author: 1, Clock: 1}},
		{"01 08 01 00 00", api.Node{Author: 8, Clock: 1}},
		{"01 02 ac 02 01" + zeroHash[:62] + "01 00", api.Node{Author: 2, Clock: 300, Parents: []api.Hash{h1}}},
		{"01 02 80 20 02" + zeroHash + zeroHash[:62] + "01 00", api.Node{Author: 2, Clock: 4096, Parents: []api.Hash{h0, h1}}},
		{"01 01 01 00 01 01 01 6b 01 76", api.Node{Author: 1, Clock: 1, Ops: []api.Op{{Kind: api.OpPut, Key: "k", Text: "v"}}}},
	} {
		wantNode(t, fromHex(c.row), c.want)
	}
}

// P5.3: authors, clocks and parents of all sorts, in blocks laid by hand.
func TestDecodeEdges(t *testing.T) {
	for author := range 256 {
		for _, clock := range []int{0, 1, 2, 127, 128, 4095, 4096, 4097, 1 << 20} {
			for _, count := range []int{0, 1, 2, 64, 65} {
				n := api.Node{Author: author, Clock: clock, Parents: parents(count)}
				row := blockOf(n)
				behind := 3
				if clock > 127 {
					behind = 4
				}
				switch {
				case author < 1 || author > 8:
					wantBad(t, "an author", row, api.ErrAuthor, 1)
				case clock > 4096:
					wantBad(t, "a clock", row, api.ErrOver, 2)
				case clock == 0:
					wantBad(t, "a clock", row, api.ErrClock, 2)
				case count > 64:
					wantBad(t, "parents", row, api.ErrOver, behind)
				case (clock == 1) != (count == 0):
					wantBad(t, "a clock", row, api.ErrClock, 2)
				default:
					wantNode(t, row, n)
				}
			}
		}
	}
}

// P5.3: MaxParents parents, with each pair of neighbours equal, and the wrong way round, told where the second one begins.
func TestDecodeParents(t *testing.T) {
	n := api.Node{Author: 1, Clock: 300, Parents: parents(64)}
	wantNode(t, blockOf(n), n)
	for i := 1; i < 64; i++ {
		at := 5 + 32*i
		equal := copyOf(n)
		equal.Parents[i] = equal.Parents[i-1]
		wantBad(t, "equal parents", blockOf(equal), api.ErrParents, at)
		falling := copyOf(n)
		falling.Parents[i], falling.Parents[i-1] = falling.Parents[i-1], falling.Parents[i]
		wantBad(t, "falling parents", blockOf(falling), api.ErrParents, at)
	}
}

// P5.3: each number of a block in a longer form than need be is told where it begins.
func TestDecodeLong(t *testing.T) {
	parts := []string{ // a number, and what stands behind it
		"\x02", "",
		"\x01", string(h1[:]),
		"\x01", "\x01",
		"\x01", "k",
		"\x01", "v",
	}
	begin := "\x01\x01"
	if _, err := node.Decode([]byte(begin + strings.Join(parts, ""))); err != nil {
		t.Fatalf("the block as it should be: %v", err)
	}
	for i := 0; i < len(parts); i += 2 {
		ahead, behind := begin+strings.Join(parts[:i], ""), strings.Join(parts[i+1:], "")
		for more := range 9 {
			longer := string([]byte{parts[i][0] | 0x80}) + strings.Repeat("\x80", more) + "\x00"
			wantBad(t, "a longer form", []byte(ahead+longer+behind), api.ErrLong, len(ahead))
		}
	}
}

// P5.3, P5.6: many blocks, cut at every place, against the chapter's words: ErrShort.
func TestDecodeCut(t *testing.T) {
	r := chance()
	for range 60 {
		row := blockOf(someNode(r))
		for end := range row {
			if why := wantWords(t, row[:end]); why != api.ErrShort {
				t.Fatalf("cut at %d of %d: error %d", end, len(row), why)
			}
		}
	}
}

// P5.6: ErrShort is met where the thing begins that is cut, the chapter's places counted by hand.
func TestDecodeCutPlaces(t *testing.T) {
	things := []string{
		"01", "03", "ac 02", "02", zeroHash, zeroHash[:62] + "01",
		"02", "01", "01", "6b", "02", "76 76", "06", "00", "80 01",
	}
	row, begins := []byte{}, []int{}
	for _, x := range things {
		begin := len(row)
		for _, c := range fromHex(x) {
			row, begins = append(row, c), append(begins, begin)
		}
	}
	if _, err := node.Decode(row); err != nil {
		t.Fatalf("the whole block: %v", err)
	}
	for end, at := range begins {
		wantBad(t, "a block cut short", row[:end], api.ErrShort, at)
	}
}

// P5.6: a block followed by more bytes is told at the block's end, up to MaxNode bytes in all; then ErrBytes.
func TestDecodeRest(t *testing.T) {
	r := chance()
	for range 100 {
		row := blockOf(someNode(r))
		for _, more := range [][]byte{{0}, {1}, {255}, row, make([]byte, 300)} {
			wantBad(t, "a block and more", slices.Concat(row, more), api.ErrRest, len(row))
		}
	}
	row := blockOf(someNode(r))
	full := append(slices.Clone(row), make([]byte, 1048576-len(row))...)
	wantBad(t, "MaxNode bytes", full, api.ErrRest, len(row))
	wantBad(t, "one more", append(full, 0), api.ErrBytes, 1048576)
	row = blockOf(ofSize(1048575, 1))
	wantBad(t, "a long block and a byte", append(row, 0), api.ErrRest, 1048575)
}

// P5.3: blocks of MaxNode bytes, and of one more; whatever else is wrong with what is too long isn't told.
func TestDecodeBytes(t *testing.T) {
	for _, count := range []int{0, 1, 64} {
		for _, size := range []int{1048575, 1048576} {
			wantNode(t, blockOf(ofSize(size, count)), ofSize(size, count))
		}
		wantBad(t, "one more", blockOf(ofSize(1048577, count)), api.ErrBytes, 1048576)
		cut := blockOf(ofSize(1048577, count))[:1048576]
		if why := wantWords(t, cut); why != api.ErrShort {
			t.Errorf("a block of one more, cut: error %d", why)
		}
	}
	for _, first := range []byte{0, 1, 2, 255} {
		for _, more := range []int{1, 2, 1048576} {
			wantBad(t, "too many bytes", bytes.Repeat([]byte{first}, 1048576+more), api.ErrBytes, 1048576)
		}
	}
	wantBad(t, "MaxNode bytes", make([]byte, 1048576), api.ErrForm, 0)
}

// P5.3: many blocks, with the byte at every place turned, against the chapter's words.
func TestDecodeTurned(t *testing.T) {
	r := chance()
	told := map[api.Errno]int{}
	for range 80 {
		row := blockOf(someNode(r))
		if len(row) > 500 {
			continue // most of it is parents, and hashing it takes long
		}
		for i, was := range row {
			for _, x := range []byte{0, 1, 2, 9, 64, 65, 0x7f, 0x80, 0x81, 0xff, was ^ 1, was ^ 0x80, was + 1, byte(r.Uint32())} {
				row[i] = x
				told[wantWords(t, row)]++
			}
			row[i] = was
		}
	}
	for _, why := range []api.Errno{
		api.OK, api.ErrForm, api.ErrAuthor, api.ErrClock, api.ErrParents,
		api.ErrShort, api.ErrLong, api.ErrOver, api.ErrRest, api.ErrKind, api.ErrAt,
	} {
		if told[why] < 50 {
			t.Errorf("error %d: only %d times", why, told[why])
		}
	}
}

// P5.3: a block with each byte turned to each other one.
func TestDecodeEveryByte(t *testing.T) {
	row := blockOf(api.Node{Author: 2, Clock: 300, Parents: parents(3), Ops: []api.Op{
		{Kind: api.OpPut, Key: "k", Text: "v"}, {Kind: api.OpInsert, Key: "l"}, {Kind: api.OpDelete, Key: "l", At: api.Ident{Op: 2}},
	}})
	for i, was := range row {
		for x := range 256 {
			row[i] = byte(x)
			wantWords(t, row)
		}
		row[i] = was
	}
}

// P5.3: all rows of up to two bytes behind the first two, and rows of any bytes.
func TestDecodeAnyRow(t *testing.T) {
	for x := range 256 {
		wantWords(t, []byte{byte(x)})
		for y := range 256 {
			wantWords(t, []byte{byte(x), byte(y)})
			wantWords(t, []byte{1, 1, byte(x), byte(y)})
			wantWords(t, []byte{1, 1, byte(x), byte(y), 0, 0})
		}
	}
	r := chance()
	for range 20000 {
		row := make([]byte, r.IntN(60))
		for i := range row {
			row[i] = one(r, 0, 1, 2, 0x80, 0xff, byte(r.Uint32()))
		}
		copy(row, []byte{1, 1, 2, 1}[:r.IntN(5)])
		wantWords(t, row)
	}
}

// R2: each answer has an error of its own, which a caller may change.
func TestErrorsApart(t *testing.T) {
	for _, row := range [][]byte{nil, {2}, {1, 9}, {1, 1, 0}, {1, 1, 2, 0}, {1, 1, 1, 0, 0, 0}, make([]byte, 1048577)} {
		_, a := node.Decode(row)
		was := *a.(*api.Bad)
		*a.(*api.Bad) = api.Bad{}
		_, b := node.Decode(row)
		if *b.(*api.Bad) != was {
			t.Errorf("Decode of %.10x: %v behind a changed error, want %v", row, b, &was)
		}
	}
}
