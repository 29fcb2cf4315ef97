package pack_test

import (
	"bytes"
	"errors"
	"fmt"
	"math"
	"math/big"
	"strings"
	"testing"

	"pleach/api"
	"pleach/pack"
)

// call is a call of an In that answers an error; End has no other answer.
type call struct {
	what string
	do   func(r *pack.In) (any, error)
	zero any
}

func callByte() call {
	return call{"Byte", func(r *pack.In) (any, error) { return r.Byte() }, byte(0)}
}

func callNumber(most uint64) call {
	return call{fmt.Sprintf("Number(%d)", most), func(r *pack.In) (any, error) { return r.Number(most) }, uint64(0)}
}

func callSigned() call {
	return call{"Signed", func(r *pack.In) (any, error) { return r.Signed() }, int64(0)}
}

func callRaw(n int) call {
	return call{fmt.Sprintf("Raw(%d)", n), func(r *pack.In) (any, error) { return asText(r.Raw(n)) }, ""}
}

func callBytes(most int) call {
	return call{fmt.Sprintf("Bytes(%d)", most), func(r *pack.In) (any, error) { return asText(r.Bytes(most)) }, ""}
}

func callText(most int) call {
	return call{fmt.Sprintf("Text(%d)", most), func(r *pack.In) (any, error) { return r.Text(most) }, ""}
}

func callHash() call {
	return call{"Hash", func(r *pack.In) (any, error) { return r.Hash() }, api.Hash{}}
}

func callEnd() call {
	return call{"End", func(r *pack.In) (any, error) { return nil, r.End() }, nil}
}

// asText makes bytes such that == holds them against others; none are nil or not, as they please.
func asText(b []byte, err error) (any, error) { return string(b), err }

// allCalls tells every call, with arguments that may be and such as may not.
func allCalls() []call {
	return []call{
		callByte(), callNumber(0), callNumber(math.MaxUint64), callSigned(), callRaw(0), callRaw(1), callRaw(-1), callRaw(99),
		callBytes(0), callBytes(-1), callBytes(99), callText(0), callText(-1), callText(99), callHash(), callEnd(),
	}
}

// wantRead asks that a call answers so, and where it stands then.
func wantRead(t *testing.T, r *pack.In, c call, want any, at int) {
	t.Helper()
	whole := r.At() + r.Left()
	got, err := c.do(r)
	if err != nil || got != want {
		t.Fatalf("%s: %#v, %v, want %#v", c.what, got, err, want)
	}
	if r.At() != at || r.Left() != whole-at {
		t.Fatalf("%s: stands at %d with %d left, want %d", c.what, r.At(), r.Left(), at)
	}
}

// wantBad asks that a call answers an error, and that all calls behind it answer that very error.
func wantBad(t *testing.T, r *pack.In, c call, why api.Errno, at int) {
	t.Helper()
	whole := r.At() + r.Left()
	got, err := c.do(r)
	bad, ok := err.(*api.Bad)
	if !ok || bad == nil || *bad != (api.Bad{Why: why, At: at}) || !errors.Is(err, why) {
		t.Fatalf("%s: %v, want error %d at %d", c.what, err, why, at)
	}
	if got != c.zero {
		t.Fatalf("%s: %#v beside an error", c.what, got)
	}
	for _, next := range append(allCalls(), c, callEnd()) {
		if r.At() != at || r.Left() != whole-at {
			t.Fatalf("%s: behind the error it stands at %d with %d left, want %d", c.what, r.At(), r.Left(), at)
		}
		if got, again := next.do(r); again != err || got != next.zero {
			t.Fatalf("%s behind the error of %s: %#v, %v", next.what, c.what, got, again)
		}
	}
	if *bad != (api.Bad{Why: why, At: at}) {
		t.Fatalf("%s: the error became %v", c.what, bad)
	}
}

// P2.3: the chapter's examples of rows that are refused at once.
func TestReadExamples(t *testing.T) {
	nineOpen := strings.Repeat("80", 9)
	for _, c := range []struct {
		row  string
		call call
		why  api.Errno
		at   int
	}{
		{"80", callNumber(9), api.ErrShort, 0},
		{"80 00", callNumber(9), api.ErrLong, 0},
		{nineOpen + "00", callNumber(9), api.ErrLong, 0},
		{nineFull + "02", callNumber(9), api.ErrOver, 0},
		{nineFull + "ff", callNumber(9), api.ErrOver, 0},
		{nineOpen + "81", callNumber(9), api.ErrOver, 0},
		{nineOpen + "80", callNumber(9), api.ErrOver, 0},
		{nineOpen, callNumber(9), api.ErrShort, 0},
		{"03 61 62", callBytes(2), api.ErrOver, 0},
		{"03 61 62", callBytes(3), api.ErrShort, 1},
		{"03 61 62", callText(2), api.ErrOver, 0},
		{"03 61 62", callText(3), api.ErrShort, 1},
		{"61", callRaw(-1), api.ErrArg, 0},
		{"61", callRaw(2), api.ErrShort, 0},
		{"61", callHash(), api.ErrShort, 0},
	} {
		wantBad(t, pack.NewIn(fromHex(c.row)), c.call, c.why, c.at)
	}
}

// P2.3: the chapter's examples of more than one call.
func TestReadSteps(t *testing.T) {
	r := pack.NewIn(fromHex("05 ac 02"))
	wantRead(t, r, callByte(), byte(5), 1)
	wantBad(t, r, callNumber(299), api.ErrOver, 1)
	if r.At() != 1 || r.Left() != 2 {
		t.Errorf("At %d, Left %d", r.At(), r.Left())
	}
	r = pack.NewIn(fromHex("02 61 62 63"))
	wantRead(t, r, callText(2), "ab", 3)
	wantBad(t, r, callEnd(), api.ErrRest, 3)
	r = pack.NewIn(nil)
	wantRead(t, r, callEnd(), nil, 0)
	wantBad(t, r, callBytes(0), api.ErrShort, 0)
}

// P2.3: where it stands at the beginning, and behind each thing.
func TestReadStands(t *testing.T) {
	h := api.Hash(someBytes(chance(), 32))
	row := append(fromHex("07 ac 02 d7 04 61 62 63 02 00 ff 02 80 7f"), h[:]...)
	r := pack.NewIn(row)
	if r.At() != 0 || r.Left() != len(row) {
		t.Fatalf("At %d, Left %d", r.At(), r.Left())
	}
	wantRead(t, r, callByte(), byte(7), 1)
	wantRead(t, r, callNumber(300), uint64(300), 3)
	wantRead(t, r, callSigned(), int64(-300), 5)
	wantRead(t, r, callRaw(3), "abc", 8)
	wantRead(t, r, callRaw(0), "", 8)
	wantRead(t, r, callBytes(2), "\x00\xff", 11)
	wantRead(t, r, callText(2), "\x80\x7f", 14)
	wantRead(t, r, callHash(), h, 46)
	wantRead(t, r, callRaw(0), "", 46)
	wantRead(t, r, callEnd(), nil, 46)
	wantRead(t, r, callEnd(), nil, 46)
	wantBad(t, r, callByte(), api.ErrShort, 46)
}

// P2.3: no bytes at all.
func TestReadNothing(t *testing.T) {
	for _, none := range [][]byte{nil, {}} {
		for _, c := range []call{callByte(), callNumber(0), callNumber(math.MaxUint64), callSigned(), callRaw(1), callBytes(0), callBytes(-1), callBytes(9), callText(0), callText(-1), callText(9), callHash()} {
			wantBad(t, pack.NewIn(none), c, api.ErrShort, 0)
		}
		wantBad(t, pack.NewIn(none), callRaw(-1), api.ErrArg, 0)
		r := pack.NewIn(none)
		wantRead(t, r, callRaw(0), "", 0)
		wantRead(t, r, callEnd(), nil, 0)
		wantRead(t, r, callEnd(), nil, 0)
		wantBad(t, r, callByte(), api.ErrShort, 0)
	}
}

// numberOf tells, by the chapter's words, the number with which a row begins, how many bytes it has, and what is wrong.
func numberOf(row []byte, most uint64) (uint64, int, api.Errno) {
	n := 1
	for n <= len(row) && n < 10 && row[n-1] >= 128 {
		n++
	}
	if n > len(row) {
		return 0, 0, api.ErrShort
	}
	if n == 10 && row[9] > 1 {
		return 0, 0, api.ErrOver
	}
	if n > 1 && row[n-1] == 0 {
		return 0, 0, api.ErrLong
	}
	x := new(big.Int)
	for i := n - 1; i >= 0; i-- {
		x.Lsh(x, 7)
		x.Add(x, big.NewInt(int64(row[i]%128)))
	}
	if x.Cmp(new(big.Int).SetUint64(most)) > 0 {
		return 0, 0, api.ErrOver
	}
	return x.Uint64(), n, api.OK
}

func wantNumber(t *testing.T, row []byte, most uint64) {
	t.Helper()
	x, n, why := numberOf(row, most)
	r := pack.NewIn(row)
	got, err := r.Number(most)
	if why != api.OK {
		bad, ok := err.(*api.Bad)
		if !ok || *bad != (api.Bad{Why: why}) || got != 0 || r.At() != 0 || r.Left() != len(row) || r.End() != err {
			t.Fatalf("%x: Number(%d): %d, %v, want error %d", row, most, got, err, why)
		}
		return
	}
	if err != nil || got != x || r.At() != n || r.Left() != len(row)-n {
		t.Fatalf("%x: Number(%d): %d, %v, stands at %d, want %d, %d", row, most, got, err, r.At(), x, n)
	}
}

// P2.3: all rows of one byte and of two.
func TestNumberShortRows(t *testing.T) {
	for x := range 256 {
		for _, most := range []uint64{0, 1, 126, 127, 128, math.MaxUint64} {
			wantNumber(t, []byte{byte(x)}, most)
		}
		for y := range 256 {
			for _, most := range []uint64{0, 127, 128, 300, 1<<14 - 2, math.MaxUint64} {
				wantNumber(t, []byte{byte(x), byte(y)}, most)
			}
		}
	}
}

// P2.3: rows that go on for up to twelve bytes, each last byte behind them, and one more or none.
func TestNumberLongRows(t *testing.T) {
	r := chance()
	for n := range 13 {
		low, high, some := bytes.Repeat([]byte{0x80}, n), bytes.Repeat([]byte{0xff}, n), someBytes(r, n)
		for i := range some {
			some[i] |= 0x80
		}
		for _, open := range [][]byte{low, high, some} {
			wantNumber(t, open, math.MaxUint64)
			for last := range 256 {
				row := append(bytes.Clone(open), byte(last))
				for _, most := range []uint64{0, 9, 1 << 62, math.MaxUint64 - 1, math.MaxUint64} {
					wantNumber(t, row, most)
					wantNumber(t, append(bytes.Clone(row), 0), most)
				}
			}
		}
	}
}

// P2.3: a number is held against most just so: the same is let, one less isn't.
func TestNumberMost(t *testing.T) {
	for _, x := range edges() {
		row := laid(func(o *pack.Out) { o.Number(x) })
		wantRead(t, pack.NewIn(row), callNumber(x), x, len(row))
		wantRead(t, pack.NewIn(row), callNumber(math.MaxUint64), x, len(row))
		if x > 0 {
			wantBad(t, pack.NewIn(row), callNumber(x-1), api.ErrOver, 0)
			wantBad(t, pack.NewIn(row), callNumber(0), api.ErrOver, 0)
		}
	}
}

// P2.3: of two things that are wrong the one that is named first is told.
func TestNumberFirstError(t *testing.T) {
	wantBad(t, pack.NewIn(fromHex("ff")), callNumber(0), api.ErrShort, 0)
	wantBad(t, pack.NewIn(fromHex("ff ff")), callNumber(1), api.ErrShort, 0)
	wantBad(t, pack.NewIn(fromHex("ff 00")), callNumber(1), api.ErrLong, 0)
	wantBad(t, pack.NewIn(fromHex("80 80 00")), callNumber(0), api.ErrLong, 0)
	wantBad(t, pack.NewIn(fromHex(nineFull+"00")), callNumber(0), api.ErrLong, 0)
	wantBad(t, pack.NewIn(fromHex("ff 00 61")), callBytes(0), api.ErrLong, 0)
	wantBad(t, pack.NewIn(fromHex("ff")), callText(0), api.ErrShort, 0)
	wantBad(t, pack.NewIn(fromHex("05")), callBytes(4), api.ErrOver, 0)
}

// P2.3: signed numbers at both ends, and rows that are no number's.
func TestSigned(t *testing.T) {
	for _, c := range []struct {
		row  string
		want int64
	}{
		{"00", 0}, {"01", -1}, {"02", 1}, {"7f", -64}, {"80 01", 64}, {"81 01", -65},
		{nineFull + "01", math.MinInt64}, {"fe" + nineFull[2:] + "01", math.MaxInt64}, {"fd" + nineFull[2:] + "01", math.MinInt64 + 1},
	} {
		row := fromHex(c.row)
		wantRead(t, pack.NewIn(row), callSigned(), c.want, len(row))
		wantRead(t, pack.NewIn(append(row, 0x80)), callSigned(), c.want, len(row))
	}
	wantBad(t, pack.NewIn(fromHex("80")), callSigned(), api.ErrShort, 0)
	wantBad(t, pack.NewIn(fromHex("81 00")), callSigned(), api.ErrLong, 0)
	wantBad(t, pack.NewIn(fromHex(nineFull+"02")), callSigned(), api.ErrOver, 0)
	r := pack.NewIn(fromHex("01 80"))
	wantRead(t, r, callSigned(), int64(-1), 1)
	wantBad(t, r, callSigned(), api.ErrShort, 1)
}

// P2.3: Raw of none, of all, of one too many, and of numbers that may not be.
func TestRaw(t *testing.T) {
	row := someBytes(chance(), 9)
	for at := range len(row) + 1 {
		for n := range len(row) - at + 1 {
			wantRead(t, readTo(t, row, at), callRaw(n), string(row[at:at+n]), at+n)
		}
		for _, n := range []int{len(row) - at + 1, len(row) + 1, math.MaxInt32, math.MaxInt - 1, math.MaxInt} {
			wantBad(t, readTo(t, row, at), callRaw(n), api.ErrShort, at)
		}
		for _, n := range []int{-1, -at - 1, math.MinInt32, math.MinInt} {
			wantBad(t, readTo(t, row, at), callRaw(n), api.ErrArg, at)
		}
	}
}

// readTo tells one that stands at a byte of a row.
func readTo(t *testing.T, row []byte, at int) *pack.In {
	t.Helper()
	r := pack.NewIn(row)
	for i := range at {
		wantRead(t, r, callByte(), row[i], i+1)
	}
	return r
}

// P2.3: Bytes and Text against most, and when fewer bytes are left than the number says.
func TestBytesAndText(t *testing.T) {
	for _, n := range []int{0, 1, 2, 127, 128, 300, 16384} {
		b := string(someBytes(chance(), n))
		row := laid(func(o *pack.Out) { o.Byte(7); o.Text(b) })
		size := pack.Size(uint64(n))
		for _, with := range []func(int) call{callBytes, callText} {
			for _, most := range []int{n, n + 1, math.MaxInt} {
				wantRead(t, readTo(t, row, 1), with(most), b, len(row))
				wantRead(t, readTo(t, append(bytes.Clone(row), "more"...), 1), with(most), b, len(row))
			}
			if n == 0 {
				wantRead(t, readTo(t, row, 1), with(-1), b, len(row))
				wantRead(t, readTo(t, row, 1), with(math.MinInt), b, len(row))
				continue
			}
			for _, most := range []int{n - 1, 0, -1, math.MinInt} {
				wantBad(t, readTo(t, row, 1), with(most), api.ErrOver, 1)
			}
			for _, left := range []int{0, n / 2, n - 1} {
				wantBad(t, readTo(t, row[:1+size+left], 1), with(n), api.ErrShort, 1+size)
			}
			for left := range size {
				wantBad(t, readTo(t, row[:1+left], 1), with(n), api.ErrShort, 1)
			}
		}
	}
}

// P2.3: numbers of bytes far beyond what is there.
func TestBytesFarTooMany(t *testing.T) {
	for _, x := range edges() {
		if x < 100 {
			continue
		}
		row := laid(func(o *pack.Out) { o.Number(x); o.Raw([]byte("few")) })
		for _, with := range []func(int) call{callBytes, callText} {
			if x > math.MaxInt {
				wantBad(t, pack.NewIn(row), with(math.MaxInt), api.ErrOver, 0)
			} else {
				wantBad(t, pack.NewIn(row), with(math.MaxInt), api.ErrShort, pack.Size(x))
				wantBad(t, pack.NewIn(row), with(int(x)), api.ErrShort, pack.Size(x))
			}
			wantBad(t, pack.NewIn(row), with(99), api.ErrOver, 0)
			wantBad(t, pack.NewIn(row), with(-1), api.ErrOver, 0)
		}
	}
}

// P2.3: a hash needs 32 bytes, from wherever it stands.
func TestHash(t *testing.T) {
	row := someBytes(chance(), 40)
	for at := range len(row) + 1 {
		if at <= 8 {
			wantRead(t, readTo(t, row, at), callHash(), api.Hash(row[at:at+32]), at+32)
		} else {
			wantBad(t, readTo(t, row, at), callHash(), api.ErrShort, at)
		}
	}
}

// P2.3: a byte left at the end is told, and stays told, though it could be read.
func TestEnd(t *testing.T) {
	row := someBytes(chance(), 5)
	for at := range row {
		wantBad(t, readTo(t, row, at), callEnd(), api.ErrRest, at)
	}
	wantRead(t, readTo(t, row, 5), callEnd(), nil, 5)
	for _, c := range []struct {
		call call
		why  api.Errno
	}{{callRaw(6), api.ErrShort}, {callRaw(-1), api.ErrArg}, {callHash(), api.ErrShort}} {
		wantBad(t, readTo(t, row, 0), c.call, c.why, 0) // and not ErrRest
	}
}

// P2.6: what is handed to NewIn is copied, and stays as it was, the room behind it too.
func TestInMemory(t *testing.T) {
	whole := laid(func(o *pack.Out) { o.Bytes([]byte("ab")); o.Text("cd"); o.Raw([]byte("ef")); o.Byte(9) })
	was := bytes.Clone(whole)
	r := pack.NewIn(whole[:8])
	clear(whole)
	wantRead(t, r, callBytes(2), "ab", 3)
	wantRead(t, r, callText(2), "cd", 6)
	wantRead(t, r, callRaw(2), "ef", 8)
	wantBad(t, r, callByte(), api.ErrShort, 8) // the room behind the bytes is none of them
	copy(whole, was)
	r = pack.NewIn(whole[:8])
	for _, c := range []call{callBytes(2), callText(2), callRaw(2), callEnd(), callByte()} {
		c.do(r)
	}
	if !bytes.Equal(whole, was) {
		t.Error("what was handed in changed")
	}
}

// P2.6: what Raw and Bytes answer is new memory, the room behind it too.
func TestReadMemory(t *testing.T) {
	row := laid(func(o *pack.Out) {
		o.Raw([]byte("abc"))
		o.Bytes([]byte("def"))
		o.Bytes(nil)
		o.Text("ghi")
		o.Raw([]byte("jkl"))
	})
	was := bytes.Clone(row)
	r := pack.NewIn(row)
	raw, _ := r.Raw(3)
	spoil(raw)
	b, _ := r.Bytes(3)
	if string(b) != "def" {
		t.Errorf("Bytes: %q", b)
	}
	spoil(b)
	none, _ := r.Bytes(0)
	spoil(none)
	s, _ := r.Text(3)
	last, _ := r.Raw(3)
	if s != "ghi" || string(last) != "jkl" || r.End() != nil {
		t.Errorf("Text %q, Raw %q, End %v", s, last, r.End())
	}
	spoil(last)
	if s != "ghi" || !bytes.Equal(row, was) || !allSpoilt(raw) || !allSpoilt(b) {
		t.Error("an answer shares memory")
	}
}

const spoilt = 0x77

// spoil writes over an answer and the room behind it.
func spoil(b []byte) {
	room := b[:cap(b)]
	for i := range room {
		room[i] = spoilt
	}
}

func allSpoilt(b []byte) bool { return bytes.Count(b, []byte{spoilt}) == len(b) }

// P2.6: two Ins of the same bytes have nothing in common, their errors neither.
func TestInsApart(t *testing.T) {
	row := []byte("\x01a\x80")
	a, b := pack.NewIn(row), pack.NewIn(row)
	wantRead(t, a, callText(1), "a", 2)
	_, bad := a.Number(9)
	if b.At() != 0 || b.Left() != 3 {
		t.Errorf("the other one stands at %d", b.At())
	}
	wantRead(t, b, callText(1), "a", 2)
	_, other := b.Number(9)
	if bad == nil || other == nil || bad == other {
		t.Error("two Ins have one error")
	}
	bad.(*api.Bad).At = 77
	if other.(*api.Bad).At != 2 || b.End() != other {
		t.Error("an error of one In changed with another's")
	}
}
