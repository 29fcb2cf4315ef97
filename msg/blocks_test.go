package msg_test

import (
	"bytes"
	"slices"
	"testing"

	"pleach/api"
	"pleach/msg"
)

// mayBeOne tells whether one message may have rows of such lengths.
func mayBeOne(lengths []int) bool { return len(lengths) <= 256 && sizeOf(lengths) <= 2097152 }

// batchesOf tells how many rows of such lengths each message should have.
func batchesOf(lengths []int) []int {
	l := []int{}
	for len(lengths) > 0 {
		n := 1
		for n < len(lengths) && mayBeOne(lengths[:n+1]) {
			n++
		}
		l, lengths = append(l, n), lengths[n:]
	}
	return l
}

// wantBatches: Blocks answers messages that may be, of so many rows each, which are those of l in their order, and nothing beside them.
func wantBatches(t *testing.T, l [][]byte, batches []int) {
	t.Helper()
	got, e := msg.Blocks(l)
	if e != api.OK || len(got) != len(batches) {
		t.Fatalf("Blocks of %d rows: %d messages, error %d, want %d", len(l), len(got), e, len(batches))
	}
	all := [][]byte{}
	for i, m := range got {
		if m.Kind != api.MsgBlocks || len(m.Blocks) != batches[i] || len(m.Heads) != 0 || m.Salt != 0 || len(m.Bloom) != 0 || len(m.Want) != 0 {
			t.Fatalf("Blocks of %d rows: message %d is %s, want %d rows", len(l), i, show(m), batches[i])
		}
		if why := errorOf(m); why != api.OK || msg.Check(m) != api.OK {
			t.Fatalf("Blocks of %d rows: message %d may not be: error %d, Check %d", len(l), i, why, msg.Check(m))
		}
		all = append(all, m.Blocks...)
	}
	if !slices.EqualFunc(all, l, bytes.Equal) {
		t.Fatalf("Blocks of %d rows: other rows", len(l))
	}
}

// P7.3, P7.5: the chapter's examples.
func TestBlocksExamples(t *testing.T) {
	wantBatches(t, nil, nil)
	wantBatches(t, [][]byte{}, nil)
	wantBatches(t, rows(257, 1), []int{256, 1})
	wantBatches(t, rows(2, 1048576), []int{1, 1})
	wantBatches(t, rows(3, 699048), []int{2, 1})
	wantBatches(t, rows(3, 699047), []int{3})
	got, _ := msg.Blocks(rows(3, 699047))
	if b, e := msg.Encode(got[0]); e != api.OK || len(b) != 2097152 {
		t.Errorf("the message that is just full: %d bytes, error %d", len(b), e)
	}
}

// P7.3, P7.5: from no row to some behind twice as many as a message may have.
func TestBlocksMany(t *testing.T) {
	for n := range 515 {
		want := []int{}
		for left := n; left > 0; left -= 256 {
			want = append(want, min(left, 256))
		}
		wantBatches(t, rows(n, 1), want)
	}
	wantBatches(t, rows(10000, 3), append(slices.Repeat([]int{256}, 39), 16))
}

// P7.3, P7.5: rows that just fill a message, with others behind them, and rows that are one byte too many for it, of every number of rows that counts.
func TestBlocksFull(t *testing.T) {
	for _, c := range []struct{ count, n int }{{2, 1048570}, {3, 699000}, {5, 400000}, {126, 16000}, {127, 16300}, {128, 16300}, {129, 16200}, {255, 8000}, {256, 8000}} {
		for _, more := range []int{0, 1, 2} {
			full := append(filling(c.count, c.n, 2097152), rows(more, 9)...)
			over := append(filling(c.count, c.n, 2097153), rows(more, 9)...)
			if more == 0 {
				wantBatches(t, full, []int{c.count})
			} else {
				wantBatches(t, full, []int{c.count, more})
			}
			wantBatches(t, over, []int{c.count - 1, 1 + more})
		}
	}
}

// P7.3, P7.5: 127 rows leave room for another one, but not for the second byte of how many they are.
func TestBlocksCountByte(t *testing.T) {
	l := append(filling(127, 16000, 2097152-2), []byte{7})
	wantBatches(t, l, []int{127, 1})
	l = append(filling(127, 16000, 2097152-3), []byte{7})
	wantBatches(t, l, []int{128})
	if b, e := msg.Encode(api.Message{Kind: 3, Blocks: l}); e != api.OK || len(b) != 2097152 {
		t.Errorf("128 rows: %d bytes, error %d", len(b), e)
	}
}

// P7.3, P7.5: a row that doesn't fit begins the next message, though a later one would still have fitted.
func TestBlocksInOrder(t *testing.T) {
	wantBatches(t, rowsOf(1048576, 1048576, 1, 1), []int{1, 3})
	wantBatches(t, rowsOf(1048576, 1, 1048576, 1, 1048576), []int{2, 2, 1})
	wantBatches(t, rowsOf(1, 1048576, 1048576), []int{2, 1})
	wantBatches(t, rowsOf(1048576, 1048576, 1048576, 1048576), []int{1, 1, 1, 1})
	same := []byte{5}
	wantBatches(t, slices.Repeat([][]byte{same}, 600), []int{256, 256, 88})
}

// P7.3, P7.5: rows of all sorts of lengths, against the chapter's words.
func TestBlocksWords(t *testing.T) {
	r := chance()
	unlike := 0
	for range 150 {
		most := one(r, 1, 10, 300, 9000, 17000, 70000, 1048576)
		lengths := []int{}
		for sum := 0; sum < 5000000 && len(lengths) < 600; {
			n := min(most, one(r, 1, 2, 126, 127, 128, 129, 16382, 16383, 16384, 16385, most, most-r.IntN(most), most-r.IntN(most)))
			lengths = append(lengths, n)
			sum += n
		}
		want := batchesOf(lengths)
		wantBatches(t, rowsOf(lengths...), want)
		if len(want) > 1 && want[0] != 256 {
			unlike++
		}
	}
	if unlike < 20 {
		t.Errorf("only %d lists were ended by their bytes", unlike)
	}
}

// P7.3: a row that has no byte, or more than MaxNode, at any place, is told, and no message beside it.
func TestBlocksWrong(t *testing.T) {
	for _, count := range []int{1, 2, 3, 256, 257, 600} {
		for _, at := range []int{0, 1, count / 2, 255, 256, count - 1} {
			for _, row := range [][]byte{nil, {}, make([]byte, 1048577), make([]byte, 2097153)} {
				if at >= count {
					continue
				}
				l := rows(count, 2)
				l[at] = row
				if got, e := msg.Blocks(l); e != api.ErrBytes || len(got) != 0 {
					t.Fatalf("row %d of %d has %d bytes: %d messages, error %d", at, count, len(row), len(got), e)
				}
			}
			if at < count {
				l := rows(count, 2)
				l[at] = make([]byte, 1048576)
				wantBatches(t, l, batchesOf(lengthsOf(l)))
			}
		}
	}
}

func lengthsOf(l [][]byte) []int {
	out := []int{}
	for _, row := range l {
		out = append(out, len(row))
	}
	return out
}
