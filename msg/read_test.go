package msg_test

import (
	"bytes"
	"errors"
	"slices"
	"strings"
	"testing"

	"pleach/api"
	"pleach/msg"
)

// wantBad: Decode tells that very error, and nothing beside it.
func wantBad(t *testing.T, row []byte, why api.Errno, at int) {
	t.Helper()
	m, err := msg.Decode(row)
	bad, ok := err.(*api.Bad)
	if !ok || bad == nil || *bad != (api.Bad{Why: why, At: at}) || !errors.Is(err, why) {
		t.Fatalf("Decode of %.60x: %v, want error %d at %d", row, err, why, at)
	}
	if !sameMessage(m, api.Message{}) {
		t.Fatalf("Decode of %.60x: %s beside an error", row, show(m))
	}
}

// wantTooLong: Decode tells ErrBytes, the number itself, and nothing beside it.
func wantTooLong(t *testing.T, row []byte) {
	t.Helper()
	if m, err := msg.Decode(row); err != api.ErrBytes || !sameMessage(m, api.Message{}) {
		t.Fatalf("Decode of %d bytes: %s, %v", len(row), show(m), err)
	}
}

// wantMessage: Decode of a row answers a message.
func wantMessage(t *testing.T, row []byte, want api.Message) {
	t.Helper()
	m, err := msg.Decode(row)
	if err != nil || !sameMessage(m, want) {
		t.Fatalf("Decode of %.60x: %s, %v, want %s", row, show(m), err, show(want))
	}
}

// wantRead: Decode of a row answers what the chapter's words say, whatever that is; it tells which error that was.
func wantRead(t *testing.T, row []byte) api.Errno {
	t.Helper()
	m, bad := decodeOf(row)
	if bad != nil {
		wantBad(t, row, bad.Why, bad.At)
		return bad.Why
	}
	wantMessage(t, row, m)
	return api.OK
}

// P7.2: the chapter's examples, and each thing that may be wrong, at each place where it may stand.
func TestDecodeExamples(t *testing.T) {
	zero, hash1, eight := zeroHash, zeroHash[:62]+"01", zeroHash[:16]
	hello := "01 00" + eight + "08" + eight // up to its Want
	for _, c := range []struct {
		row string
		why api.Errno
		at  int
	}{
		{"", api.ErrShort, 0},
		{"04", api.ErrKind, 0},
		{"03 00", api.ErrArg, 1},
		{"03 81 02", api.ErrOver, 1},
		{"03 01 00", api.ErrBytes, 2},
		{"02 02" + hash1 + zero, api.ErrOrder, 34},
		{"02 00 00", api.ErrRest, 2},
		{"01 00" + eight + "01 00 00", api.ErrShape, 10},

		{"00", api.ErrKind, 0},
		{"ff", api.ErrKind, 0},
		{"81 00", api.ErrKind, 0}, // a Kind is a byte, no number
		{"82 00 00", api.ErrKind, 0},
		{"00 80 00", api.ErrKind, 0},

		{"01", api.ErrShort, 1},
		{"01 80", api.ErrShort, 1},
		{"01 80 00", api.ErrLong, 1},
		{"01 81 20", api.ErrOver, 1}, // 4097
		{"01 80 20", api.ErrShort, 3},
		{"01 01" + zero[:62], api.ErrShort, 2},
		{"01 02" + zero + zero[:62], api.ErrShort, 34},
		{"01 02" + zero + zero, api.ErrOrder, 34},
		{"01 02" + hash1 + zero, api.ErrOrder, 34},
		{"01 03" + zero + hash1 + hash1, api.ErrOrder, 66},
		{"01 03" + zero + zero, api.ErrOrder, 34}, // ahead of what is cut off
		{"01 00", api.ErrShort, 2},
		{"01 00" + eight[2:], api.ErrShort, 2},
		{"01 00" + eight, api.ErrShort, 10},
		{"01 00" + eight + "80", api.ErrShort, 10},
		{"01 00" + eight + "88 00" + eight, api.ErrLong, 10},
		{"01 00" + eight + "81 40", api.ErrOver, 10}, // 8193
		{"01 00" + eight + "80 80 01", api.ErrOver, 10},
		{"01 00" + eight + "80 40", api.ErrShort, 12},
		{"01 00" + eight + "08" + eight[2:], api.ErrShort, 11},
		{"01 00" + eight + "09" + eight, api.ErrShort, 11}, // and not ErrShape
		{"01 00" + eight + "00", api.ErrShape, 10},
		{"01 00" + eight + "09" + eight + "00", api.ErrShape, 10},
		{"01 00" + eight + "07" + eight, api.ErrShape, 10},
		{"01 01" + hash1 + eight + "04" + eight, api.ErrShape, 42},
		{hello, api.ErrShort, 19},
		{hello + "80", api.ErrShort, 19},
		{hello + "80 00", api.ErrLong, 19},
		{hello + "81 20", api.ErrOver, 19},
		{hello + "01", api.ErrShort, 20},
		{hello + "02" + hash1 + hash1, api.ErrOrder, 52},
		{hello + "02" + hash1 + zero, api.ErrOrder, 52},
		{hello + "00 00", api.ErrRest, 20},
		{hello + "01" + zero + "ff", api.ErrRest, 52},

		{"02", api.ErrShort, 1},
		{"02 80", api.ErrShort, 1},
		{"02 81 00", api.ErrLong, 1},
		{"02 81 20", api.ErrOver, 1},
		{"02 ff ff ff ff ff ff ff ff ff 01", api.ErrOver, 1},
		{"02 ff ff ff ff ff ff ff ff ff 02", api.ErrOver, 1},
		{"02 80 20", api.ErrShort, 3},
		{"02 01" + zero[2:], api.ErrShort, 2},
		{"02 02" + zero, api.ErrShort, 34},
		{"02 02" + zero + zero, api.ErrOrder, 34},
		{"02 03" + zero + hash1 + zero, api.ErrOrder, 66},
		{"02 01" + zero + hash1, api.ErrRest, 34},

		{"03", api.ErrShort, 1},
		{"03 80", api.ErrShort, 1},
		{"03 80 00", api.ErrLong, 1}, // and not ErrArg
		{"03 00 00", api.ErrArg, 1},
		{"03 80 02", api.ErrShort, 3},
		{"03 ff ff ff ff ff ff ff ff ff 01", api.ErrOver, 1},
		{"03 01", api.ErrShort, 2},
		{"03 01 80", api.ErrShort, 2},
		{"03 01 80 00", api.ErrLong, 2}, // and not ErrBytes
		{"03 01 81 80 40", api.ErrOver, 2},
		{"03 01 80 80 40", api.ErrShort, 5},
		{"03 01 02 07", api.ErrShort, 3},
		{"03 02 01 07", api.ErrShort, 4},
		{"03 02 01 07 00", api.ErrBytes, 4},
		{"03 02 01 07 81 00 07", api.ErrLong, 4},
		{"03 03 00", api.ErrBytes, 2}, // ahead of what is cut off
		{"03 01 01 07 01 07", api.ErrRest, 4},
	} {
		wantBad(t, fromHex(c.row), c.why, c.at)
		wantRead(t, fromHex(c.row))
	}
}

// P7.2: messages that are read, written by hand.
func TestDecodeTaken(t *testing.T) {
	zero, hash1, eight := zeroHash, zeroHash[:62]+"01", zeroHash[:16]
	for _, c := range []struct {
		row  string
		want api.Message
	}{
		{"01 00 02 01 00 00 00 00 00 00 08" + eight + "00", api.Message{Kind: api.MsgHello, Salt: 258, Bloom: make([]byte, 8)}},
		{"01 00 08 07 06 05 04 03 02 01 08 01 02 03 04 05 06 07 08 00", api.Message{Kind: api.MsgHello, Salt: 0x0102030405060708, Bloom: []byte{1, 2, 3, 4, 5, 6, 7, 8}}},
		{"01 01" + hash1 + "00 00 00 00 00 00 00 80 08" + eight + "02" + zero + hash1, api.Message{Kind: api.MsgHello, Heads: []api.Hash{h1}, Salt: 1 << 63, Bloom: make([]byte, 8), Want: []api.Hash{h0, h1}}},
		{"01 02" + zero + hash1 + eight + "10" + eight + eight + "01" + zero, api.Message{Kind: api.MsgHello, Heads: []api.Hash{h0, h1}, Bloom: make([]byte, 16), Want: []api.Hash{h0}}},
		{"02 00", api.Message{Kind: api.MsgWant}},
		{"02 02" + zero + hash1, api.Message{Kind: api.MsgWant, Want: []api.Hash{h0, h1}}},
		{"03 02 01 01 02 02 03", api.Message{Kind: api.MsgBlocks, Blocks: [][]byte{{1}, {2, 3}}}},
		{"03 02 02 02 03 01 01", api.Message{Kind: api.MsgBlocks, Blocks: [][]byte{{2, 3}, {1}}}},
	} {
		wantMessage(t, fromHex(c.row), c.want)
	}
}

// P7.2: lists of just so many elements as may be are read; of one more, and of any number above, it is told where the number begins.
func TestDecodeLimits(t *testing.T) {
	eight := make([]byte, 8)
	for _, m := range []api.Message{
		{Kind: 1, Heads: hashes(4096), Bloom: make([]byte, 8192), Want: hashes(4096)},
		{Kind: 1, Heads: hashes(4095), Bloom: eight, Want: hashes(4095)},
		{Kind: 2, Want: hashes(4096)},
		{Kind: 3, Blocks: rows(256, 1)},
		{Kind: 3, Blocks: rows(255, 300)},
		{Kind: 3, Blocks: rowsOf(1048576, 1, 1048565)},
		{Kind: 3, Blocks: rowsOf(1048576)},
	} {
		wantMessage(t, bytesOf(m), m)
	}
	for _, c := range []struct {
		m  api.Message
		at int
	}{
		{api.Message{Kind: 1, Heads: hashes(4097), Bloom: eight}, 1},
		{api.Message{Kind: 1, Heads: hashes(5000), Bloom: eight}, 1},
		{api.Message{Kind: 1, Bloom: eight, Want: hashes(4097)}, 19},
		{api.Message{Kind: 1, Heads: hashes(4096), Bloom: eight, Want: hashes(4097)}, 3 + 32*4096 + 17},
		{api.Message{Kind: 1, Bloom: make([]byte, 8193)}, 10},
		{api.Message{Kind: 1, Bloom: make([]byte, 16384)}, 10},
		{api.Message{Kind: 2, Want: hashes(4097)}, 1},
		{api.Message{Kind: 2, Want: make([]api.Hash, 60000)}, 1},
		{api.Message{Kind: 3, Blocks: rows(257, 1)}, 1},
		{api.Message{Kind: 3, Blocks: rows(5000, 1)}, 1},
		{api.Message{Kind: 3, Blocks: rowsOf(1048577)}, 2},
		{api.Message{Kind: 3, Blocks: rowsOf(1, 1048577, 1)}, 4},
		{api.Message{Kind: 3, Blocks: rowsOf(1, 2, 2000000)}, 7},
	} {
		wantBad(t, bytesOf(c.m), api.ErrOver, c.at)
	}
}

// P7.2: a digest of every number of bytes: what is none is told where its number of bytes begins.
func TestDecodeShape(t *testing.T) {
	for n := range 8200 {
		m := api.Message{Kind: 1, Heads: hashes(1), Salt: 5, Bloom: make([]byte, n)}
		switch row := bytesOf(m); {
		case n > 8192:
			wantBad(t, row, api.ErrOver, 42)
		case slices.Contains([]int{8, 16, 32, 64, 128, 256, 512, 1024, 2048, 4096, 8192}, n):
			wantMessage(t, row, m)
		default:
			wantBad(t, row, api.ErrShape, 42)
		}
	}
}

// P7.2: long lists, with neighbours the same, and the wrong way round, told where the second one begins.
func TestDecodeOrder(t *testing.T) {
	for _, i := range []int{1, 2, 3, 62, 63, 64, 126, 127, 128, 2000, 4094, 4095} {
		same, falling := hashes(4096), hashes(4096)
		same[i] = same[i-1]
		falling[i], falling[i-1] = falling[i-1], falling[i]
		for _, l := range [][]api.Hash{same, falling} {
			wantBad(t, bytesOf(api.Message{Kind: 2, Want: l}), api.ErrOrder, 3+32*i)
			wantBad(t, bytesOf(api.Message{Kind: 1, Heads: l, Bloom: make([]byte, 8), Want: l}), api.ErrOrder, 3+32*i)
			wantBad(t, bytesOf(api.Message{Kind: 1, Heads: hashes(2), Bloom: make([]byte, 16), Want: l}), api.ErrOrder, 2+64+8+17+2+32*i)
		}
	}
}

// P7.2: a block without bytes is told where its number of bytes begins, at whatever place it stands.
func TestDecodeEmptyBlock(t *testing.T) {
	for _, count := range []int{1, 2, 127, 128, 256} {
		for _, i := range []int{0, 1, count / 2, count - 1} {
			l := rows(count, 200)
			if i < count {
				l[i] = nil
				head := len(bytesOf(api.Message{Kind: 3, Blocks: make([][]byte, count)})) - count
				wantBad(t, bytesOf(api.Message{Kind: 3, Blocks: l}), api.ErrBytes, head+202*i)
			}
		}
	}
}

// P7.2: each number of a message in a longer form than need be is told where it begins.
func TestDecodeLong(t *testing.T) {
	eight := string(make([]byte, 8))
	for _, parts := range [][]string{ // what stands ahead of a number, the number, ..
		{"\x01", "\x01", string(h1[:]) + eight, "\x08", eight, "\x01", string(h0[:])},
		{"\x02", "\x02", string(h0[:]) + string(h1[:])},
		{"\x02", "\x00"},
		{"\x03", "\x02", "", "\x01", "k", "\x02", "vw"},
	} {
		if _, err := msg.Decode([]byte(strings.Join(parts, ""))); err != nil {
			t.Fatalf("the message as it should be: %v", err)
		}
		for i := 1; i < len(parts); i += 2 {
			ahead, behind := strings.Join(parts[:i], ""), strings.Join(parts[i+1:], "")
			for more := range 9 {
				longer := string([]byte{parts[i][0] | 0x80}) + strings.Repeat("\x80", more) + "\x00"
				wantBad(t, []byte(ahead+longer+behind), api.ErrLong, len(ahead))
			}
		}
	}
}

// P7.2: a message of each kind, cut at every place: ErrShort is met where the thing begins that is cut, the places counted by hand.
func TestDecodeCutPlaces(t *testing.T) {
	zero, hash1, eight := zeroHash, zeroHash[:62]+"01", zeroHash[:16]
	for _, things := range [][]string{
		{"01", "02", zero, hash1, eight, "10", eight + eight, "01", hash1},
		{"01", "00", eight, "08", eight, "00"},
		{"02", "02", zero, hash1},
		{"03", "03", "01", "07", "02", "08 09", "82 01", strings.Repeat("06", 130)},
	} {
		row, begins := []byte{}, []int{}
		for _, x := range things {
			begin := len(row)
			for _, c := range fromHex(x) {
				row, begins = append(row, c), append(begins, begin)
			}
		}
		if _, err := msg.Decode(row); err != nil {
			t.Fatalf("the whole message: %v", err)
		}
		for end, at := range begins {
			wantBad(t, row[:end], api.ErrShort, at)
		}
	}
}

// P7.2: many messages, cut at every place, against the chapter's words: ErrShort.
func TestDecodeCut(t *testing.T) {
	r := chance()
	for range 200 {
		row := bytesOf(someMessage(r))
		for end := range row {
			if why := wantRead(t, row[:end]); why != api.ErrShort {
				t.Fatalf("cut at %d of %d: error %d", end, len(row), why)
			}
		}
	}
}

// P7.2: a message followed by more bytes is told at its end, up to MaxMessage bytes in all.
func TestDecodeRest(t *testing.T) {
	r := chance()
	list := ofEachKind()
	for range 300 {
		list = append(list, someMessage(r))
	}
	for _, m := range list {
		row := bytesOf(m)
		for _, more := range [][]byte{{0}, {1}, {255}, row, make([]byte, 300)} {
			wantBad(t, slices.Concat(row, more), api.ErrRest, len(row))
		}
	}
	for _, m := range ofEachKind() {
		row := bytesOf(m)
		full := append(slices.Clone(row), make([]byte, 2097152-len(row))...)
		wantBad(t, full, api.ErrRest, len(row))
		wantTooLong(t, append(full, 0))
	}
	row := bytesOf(api.Message{Kind: 3, Blocks: filling(3, 600000, 2097151)})
	wantBad(t, append(row, 0), api.ErrRest, 2097151)
}

// P7.2: messages of MaxMessage bytes, and of one more: the number itself, whatever else is wrong with what is too long.
func TestDecodeBytes(t *testing.T) {
	for _, count := range []int{3, 127, 128, 256} {
		for _, size := range []int{2097151, 2097152} {
			m := api.Message{Kind: 3, Blocks: filling(count, 2000000/count, size)}
			wantMessage(t, bytesOf(m), m)
		}
		long := bytesOf(api.Message{Kind: 3, Blocks: filling(count, 2000000/count, 2097153)})
		wantTooLong(t, long)
		if why := wantRead(t, long[:2097152]); why != api.ErrShort {
			t.Errorf("a message of one more, cut: error %d", why)
		}
	}
	wantTooLong(t, bytesOf(api.Message{Kind: 3, Blocks: rows(2, 1048576)}))
	for _, first := range []byte{0, 1, 2, 3, 4, 255} {
		for _, more := range []int{1, 2, 2097152} {
			wantTooLong(t, bytes.Repeat([]byte{first}, 2097152+more))
		}
	}
	wantBad(t, make([]byte, 2097152), api.ErrKind, 0)
}

// P7.2: many messages, with the byte at every place turned, against the chapter's words.
func TestDecodeTurned(t *testing.T) {
	r := chance()
	told := map[api.Errno]int{}
	for range 150 {
		row := bytesOf(someMessage(r))
		if len(row) > 600 {
			continue // most of it is blocks, of which any byte may be turned
		}
		for i, was := range row {
			for _, x := range []byte{0, 1, 2, 3, 8, 16, 0x7f, 0x80, 0x81, 0xff, was ^ 1, was ^ 0x80, was + 1, byte(r.Uint32())} {
				row[i] = x
				told[wantRead(t, row)]++
			}
			row[i] = was
		}
	}
	for _, why := range []api.Errno{
		api.OK, api.ErrKind, api.ErrArg, api.ErrOrder, api.ErrShape, api.ErrBytes,
		api.ErrShort, api.ErrLong, api.ErrOver, api.ErrRest,
	} {
		if told[why] < 50 {
			t.Errorf("error %d: only %d times", why, told[why])
		}
	}
}

// P7.2: a message of each kind with each byte turned to each other one.
func TestDecodeEveryByte(t *testing.T) {
	for _, m := range ofEachKind() {
		row := bytesOf(m)
		for i, was := range row {
			for x := range 256 {
				row[i] = byte(x)
				wantRead(t, row)
			}
			row[i] = was
		}
	}
}

// P7.2: all rows of up to two bytes, all of two behind a Kind, and rows of any bytes.
func TestDecodeAnyRow(t *testing.T) {
	for _, none := range [][]byte{nil, {}} {
		wantBad(t, none, api.ErrShort, 0)
	}
	for x := range 256 {
		wantRead(t, []byte{byte(x)})
		for y := range 256 {
			wantRead(t, []byte{byte(x), byte(y)})
			for kind := range byte(3) {
				wantRead(t, []byte{kind + 1, byte(x), byte(y)})
			}
		}
	}
	r := chance()
	for range 20000 {
		row := make([]byte, r.IntN(60))
		for i := range row {
			row[i] = one(r, 0, 1, 2, 3, 8, 0x80, 0xff, byte(r.Uint32()))
		}
		if len(row) > 0 {
			row[0] = byte(r.IntN(4))
		}
		wantRead(t, row)
	}
}

// R2: each answer has an error of its own, which a caller may change.
func TestErrorsApart(t *testing.T) {
	for _, row := range [][]byte{nil, {4}, {3, 0}, {3, 1, 0}, {2, 0, 0}, {2, 1}, {1, 0, 0, 0, 0, 0, 0, 0, 0, 0, 0}} {
		_, a := msg.Decode(row)
		was := *a.(*api.Bad)
		*a.(*api.Bad) = api.Bad{}
		_, b := msg.Decode(row)
		if *b.(*api.Bad) != was {
			t.Errorf("Decode of %x: %v behind a changed error, want %v", row, b, &was)
		}
	}
}
