package ark_test

import (
	"fmt"
	"slices"
	"strings"
	"testing"

	"pleach/api"
	"pleach/ark"
	"pleach/node"
)

// P13.2: fewer than eight bytes are too short, whatever they are; else each byte of the mark counts, and it is told ahead of all that is wrong behind it.
func TestMark(t *testing.T) {
	whole := arkOf(sorted(a, a2)...)
	for n := range 8 {
		wantBad(t, "the mark cut", whole[:n], api.ErrShort, 0)
		wantBad(t, "other bytes", strings.Repeat("x", n), api.ErrShort, 0)
		for _, x := range []byte{0, 0xff, whole[n] ^ 1, whole[n] ^ 0x20, whole[n] ^ 0x80} {
			turned := whole[:n] + string([]byte{x}) + whole[n+1:]
			for _, row := range []string{turned, turned[:8], sealed(turned[:len(turned)-32]), turned + "\x00", turned[:8] + "\xff"} {
				wantBad(t, "another mark", row, api.ErrForm, 0)
			}
		}
	}
	wantBad(t, "the mark behind a byte", "\x00"+whole, api.ErrForm, 0)
	wantBad(t, "a block without mark", a, api.ErrForm, 0)
}

// P13.2: how many blocks there are is a number in its form, at most MaxNodes; all else behind it isn't looked at when it is none.
func TestCount(t *testing.T) {
	for _, x := range []struct {
		count string
		why   api.Errno
	}{
		{"", api.ErrShort}, {"\x80", api.ErrShort}, {"\xff\xff", api.ErrShort}, {strings.Repeat("\x80", 9), api.ErrShort},
		{"\x80\x00", api.ErrLong}, {"\x81\x00", api.ErrLong}, {"\x81\x80\x00", api.ErrLong}, {"\x80\xa0\x00", api.ErrLong},
		{"\x81\x20", api.ErrOver}, {"\xff\xff\x03", api.ErrOver}, {"\x80\x80\x04", api.ErrOver}, {strings.Repeat("\xff", 9) + "\x01", api.ErrOver}, {strings.Repeat("\xff", 10), api.ErrOver},
	} {
		wantBad(t, fmt.Sprintf("the number %x", x.count), "PLEACHA1"+x.count, x.why, 8)
		if x.why != api.ErrShort {
			wantBad(t, fmt.Sprintf("the number %x, and more", x.count), sealed("PLEACHA1"+x.count+"\x05"+bare), x.why, 8)
		}
	}
	wantBad(t, "4096 blocks that aren't there", "PLEACHA1\x80\x20", api.ErrShort, 10)
	wantBad(t, "4096 blocks, of which the first is none", "PLEACHA1\x80\x20\x01\x02", api.ErrForm, 11)
}

// P13.2: fewer blocks than are told make the sum a block; more make a block the sum.
func TestMiscounted(t *testing.T) {
	l := sorted(a, a2, a3)
	at := begins(l...)
	wantWords(t, summed("PLEACHA1", 4, l...))
	wantBad(t, "more blocks", summed("PLEACHA1", 2, l...), api.ErrSum, at[2]-1)
	wantBad(t, "more blocks than none", summed("PLEACHA1", 0, bare, bare), api.ErrSum, 9)
	wantBad(t, "a row of bytes that is no block", "PLEACHA1\x01"+strings.Repeat("\x00", 32), api.ErrShort, 10)
}

// P13.2: how many bytes a block has is a number in its form, at most MaxNode; so many must be left.
func TestBlockBytes(t *testing.T) {
	l := sorted(a, a2)
	ahead := "PLEACHA1\x03" + arkOf(l...)[9:begins(l...)[1]+len(l[1])]
	for _, x := range []struct {
		count string
		why   api.Errno
		at    int
	}{
		{"", api.ErrShort, 0}, {"\x80", api.ErrShort, 0}, {"\x80\x80\xc0", api.ErrShort, 0},
		{"\x85\x00" + bare, api.ErrLong, 0}, {"\x85\x80\x00" + bare, api.ErrLong, 0},
		{"\x81\x80\x40", api.ErrOver, 0}, {"\x80\x80\x41", api.ErrOver, 0}, {"\xff\xff\xff\xff\x7f", api.ErrOver, 0}, {strings.Repeat("\xff", 9) + "\x01", api.ErrOver, 0}, {strings.Repeat("\xff", 10), api.ErrOver, 0},
		{"\x05", api.ErrShort, 1}, {"\x05" + bare[:4], api.ErrShort, 1}, {"\x80\x80\x40" + bare, api.ErrShort, 3}, {"\x7f" + bare + strings.Repeat("\x00", 100), api.ErrShort, 1},
		{"\x00" + bare, api.ErrShort, 1}, {"\x00", api.ErrShort, 1},
		{"\x04" + bare, api.ErrShort, 5}, {"\x06" + bare + "\x07", api.ErrRest, 6},
	} {
		wantBad(t, fmt.Sprintf("%.10x", x.count), ahead+x.count, x.why, len(ahead)+x.at)
	}
	for _, more := range []string{"", "x"} {
		long := "\x81\x80\x40" + strings.Repeat("\x01", api.MaxNode) + more
		wantBad(t, "MaxNode and one", sealed(ahead+long), api.ErrOver, len(ahead))
	}
}

// P13.2: a block of just MaxNode bytes is one.
func TestLongestBlock(t *testing.T) {
	n := api.Node{Author: 1, Clock: 1}
	for range 15 {
		n.Ops = append(n.Ops, api.Op{Kind: api.OpPut, Text: strings.Repeat("v", api.MaxText)})
	}
	n.Ops = append(n.Ops, api.Op{Kind: api.OpPut})
	last := &n.Ops[15]
	last.Text = strings.Repeat("v", api.MaxNode-node.Size(n)-2) // its number of bytes has two more then
	x := blockOf(n)
	if len(x) != api.MaxNode {
		t.Fatalf("%d bytes", len(x))
	}
	wantBlocks(t, "the longest block", arkOf(x), x)
	wantArk(t, "the longest block", with(x), x)
	wantBlocks(t, "and another one", arkOf(sorted(x, a)...), sorted(x, a)...)
	wantBad(t, "its last byte lacks", arkOf(x)[:12+len(x)-1], api.ErrShort, 12)
	last.Text += "v"
	if _, e := node.Encode(n); e != api.ErrBytes {
		t.Fatalf("one more: %v", e)
	}
	wantBad(t, "as many bytes that are no block", arkOf(strings.Repeat("\x02", api.MaxNode)), api.ErrForm, 12)
}

// noBlocks tells rows that are no blocks, each wrong in another way.
func noBlocks() []string {
	l := []string{
		"", "\x02", "\x00", "\x01", "\x01\x00", "\x01\x09", "\x01\x01", "\x01\x01\x00", "\x01\x01\x81\x20", "\x01\x01\x81\x00\x00\x00",
		"\x01\x01\x01\x01", "\x01\x01\x02\x00", "\x01\x01\x02\x41", "\x01\x01\x01\x00\x81\x08", "\x01\x01\x01\x00\x01\x00", "\x01\x01\x01\x00\x01\x0a",
		"\x01\x01\x01\x00\x01\x09\x01k\x00", "\x01\x01\x01\x00\x01\x08\x01k\x01v\x00\x05", "\x01\x01\x01\x00\x01\x01\x81\x80\x04",
		f[:4] + f[36:68] + f[4:36] + f[68:], f[:4] + f[4:36] + f[4:36] + f[68:], // parents that don't rise
		a + "\x00", f + "\x00", a + a, strings.Repeat("\x01", 100), strings.Repeat("\x00", 300),
	}
	for i := range len(f) {
		l = append(l, f[:i])
	}
	return l
}

// P13.2: what is wrong with a block is node.Entry's error, at its place counted from the block's first byte, wherever the block stands; it is told ahead of what is wrong with a later one, with the sum, and with the order.
func TestNodeErrors(t *testing.T) {
	two := sorted(a, a2)
	told := map[api.Errno]int{}
	for _, x := range noBlocks() {
		_, err := node.Entry([]byte(x))
		bad, is := err.(*api.Bad)
		if !is {
			t.Fatalf("%x is a block", x)
		}
		told[bad.Why]++
		for _, l := range [][]string{{x}, {x, a}, {a, x}, {two[0], two[1], x}, {x, x}, {x, "", "\x02"}, {two[1], two[0], x}, {a, a, x, b}, {b, x}, {f, f, f, x}, {made("late", 3, a), x}} {
			at := begins(l...)[slices.Index(l, x)] + bad.At
			row := arkOf(l...)
			wantBad(t, "no block", row, bad.Why, at)
			wantBad(t, "no block, another sum", row[:len(row)-1]+string([]byte{row[len(row)-1] ^ 1}), bad.Why, at)
			wantBad(t, "no block, and bytes behind the end", row+"\x00", bad.Why, at)
			wantBad(t, "no block, and no sum", row[:len(row)-32], bad.Why, at)
		}
	}
	for _, why := range []api.Errno{api.ErrShort, api.ErrForm, api.ErrAuthor, api.ErrClock, api.ErrOver, api.ErrLong, api.ErrParents, api.ErrKind, api.ErrAt, api.ErrRest} {
		if told[why] == 0 {
			t.Errorf("no row is wrong with %d", why)
		}
	}
}

// P13.2: each byte of the sum counts; it is told where it begins, ahead of bytes behind it.
func TestSum(t *testing.T) {
	for _, l := range [][]string{{}, {a}, {a, b, c}, sorted(a, a2, f, b, c)} {
		row := arkOf(l...)
		at := len(row) - 32
		for i := at; i < len(row); i++ {
			for _, turn := range []byte{1, 0x80, 0xff} {
				turned := row[:i] + string([]byte{row[i] ^ turn}) + row[i+1:]
				wantBad(t, "another sum", turned, api.ErrSum, at)
				wantBad(t, "another sum, and a byte", turned+"\x00", api.ErrSum, at)
			}
		}
		ahead := row[:at]
		for _, sum := range []string{ahead[8:], ahead + "\x00", "", ahead[:at-1]} { // what it is the sum of, wrongly
			h := hashOf(sum)
			wantBad(t, "a sum of other bytes", ahead+string(h[:]), api.ErrSum, at)
		}
		wantBad(t, "zeros", ahead+strings.Repeat("\x00", 32), api.ErrSum, at)
		backwards := []byte(row[at:])
		slices.Reverse(backwards)
		wantBad(t, "backwards", ahead+string(backwards), api.ErrSum, at)
	}
}

// P13.2: what stands behind the sum is told at its first byte, whatever it is.
func TestRest(t *testing.T) {
	for _, l := range [][]string{{}, {a}, sorted(a, a2, b)} {
		row := arkOf(l...)
		for _, more := range []string{"\x00", "\xff", "\x01\x02", row, strings.Repeat("\x00", 1000)} {
			wantBad(t, "bytes behind it", row+more, api.ErrRest, len(row))
		}
	}
}

// P13.2: an ark cut short at each byte is too short, at the first byte of the thing that is cut, the chapter's places counted by hand.
func TestCut(t *testing.T) {
	l := sorted(a, b, a2)
	things := []string{"PLEACHA1", "\x03"}
	for _, x := range l {
		things = append(things, string([]byte{byte(len(x))}), x)
	}
	things = append(things, arkOf(l...)[len(strings.Join(things, "")):])
	row, places := "", []int{}
	for _, x := range things {
		places = append(places, slices.Repeat([]int{len(row)}, len(x))...)
		row += x
	}
	wantBlocks(t, "the whole ark", row, l...)
	for end, at := range places {
		wantBad(t, fmt.Sprint("cut at ", end), row[:end], api.ErrShort, at)
	}
	r := chance()
	for range 20 {
		row := arkOf(sorted(graph(r, r.IntN(9))...)...)
		for end := range row {
			if why := wantWords(t, row[:end]); why != api.ErrShort {
				t.Fatalf("cut at %d of %d: error %d", end, len(row), why)
			}
		}
	}
}

// P13.2: what is wrong with the bytes is told ahead of what is wrong with the order, and with clocks.
func TestBytesFirst(t *testing.T) {
	for _, l := range [][]string{{a, a}, {b}, {b, a}, {sorted(a, a2)[1], sorted(a, a2)[0]}, {a, made("late", 3, a)}} {
		row := arkOf(l...)
		sum := len(row) - 32
		if why := wantWords(t, row); why != api.ErrOrder && why != api.ErrClock {
			t.Fatalf("in no order: %d", why)
		}
		wantBad(t, "and another sum", row[:len(row)-1]+string([]byte{row[len(row)-1] ^ 4}), api.ErrSum, sum)
		wantBad(t, "and a byte behind it", row+"\x09", api.ErrRest, len(row))
		wantBad(t, "and cut short", row[:len(row)-1], api.ErrShort, sum)
		wantBad(t, "and what is no block", arkOf(append(slices.Clone(l), "\x01\x09")...), api.ErrAuthor, begins(append(slices.Clone(l), "xx")...)[len(l)]+1)
	}
}

// P13.2: arks with each byte turned, with the sum as it was and with a right one, against the words.
func TestTurned(t *testing.T) {
	r := chance()
	told := map[api.Errno]int{}
	for range 25 {
		row := []byte(arkOf(sorted(graph(r, 1+r.IntN(5))...)...))
		for i, was := range row {
			for _, x := range []byte{0, 1, 2, 9, 0x7f, 0x80, 0x81, 0xff, was ^ 1, was ^ 0x80, byte(r.Uint32())} {
				row[i] = x
				told[wantWords(t, string(row))]++
				if i < len(row)-32 {
					told[wantWords(t, sealed(string(row[:len(row)-32])))]++
				}
			}
			row[i] = was
		}
	}
	for _, why := range []api.Errno{
		api.OK, api.ErrForm, api.ErrAuthor, api.ErrClock, api.ErrParents, api.ErrShort, api.ErrLong, api.ErrOver,
		api.ErrRest, api.ErrKind, api.ErrOrder, api.ErrSum,
	} {
		if told[why] < 20 {
			t.Errorf("error %d: only %d times", why, told[why])
		}
	}
}

// P13.2: rows of any bytes, behind the mark and not.
func TestAnyRow(t *testing.T) {
	r := chance()
	for x := range 256 {
		for y := range 256 {
			wantWords(t, "PLEACHA1"+string([]byte{byte(x), byte(y)}))
		}
	}
	for range 20000 {
		row := make([]byte, r.IntN(80))
		for i := range row {
			row[i] = one(r, 0, 1, 2, 5, 0x80, 0xff, byte(r.Uint32()))
		}
		wantWords(t, string(row))
		ahead := "PLEACHA1" + string(row)
		wantWords(t, ahead)
		wantWords(t, sealed(ahead))
	}
	if l, err := ark.Unpack(make([]byte, 1<<20)); err == nil || len(l) != 0 {
		t.Error("zeros")
	}
}
