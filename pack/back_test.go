package pack_test

import (
	"bytes"
	"math"
	"math/rand/v2"
	"testing"

	"pleach/api"
	"pleach/pack"
)

// thing is a thing laid, and the call that reads it.
type thing struct {
	lay   func(o *pack.Out)
	read  call
	want  any
	short []int // per byte of it: where ErrShort is met, counted from its beginning, if the bytes end ahead of that one
}

// atBegin tells the places of a thing whose errors are all met at its beginning.
func atBegin(n int) []int { return make([]int, n) }

// behindLength tells the places of n bytes behind the number of them.
func behindLength(n int) []int {
	size := pack.Size(uint64(n))
	l := make([]int, size+n)
	for i := size; i < len(l); i++ {
		l[i] = size
	}
	return l
}

// someThing tells one of any kind; most lets it, just so or by more.
func someThing(r *rand.Rand) thing {
	x := r.Uint64() >> r.IntN(64)
	b := someBytes(r, r.IntN(200)*r.IntN(2))
	s := string(b)
	more := r.IntN(2) * r.IntN(100)
	switch r.IntN(7) {
	case 0:
		return thing{func(o *pack.Out) { o.Byte(byte(x)) }, callByte(), byte(x), atBegin(1)}
	case 1:
		return thing{func(o *pack.Out) { o.Number(x) }, callNumber(x), x, atBegin(pack.Size(x))}
	case 2:
		y := int64(x) * int64(1-2*r.IntN(2))
		return thing{func(o *pack.Out) { o.Signed(y) }, callSigned(), y, atBegin(len(laid(func(o *pack.Out) { o.Signed(y) })))}
	case 3:
		return thing{func(o *pack.Out) { o.Raw(b) }, callRaw(len(b)), s, atBegin(len(b))}
	case 4:
		return thing{func(o *pack.Out) { o.Bytes(b) }, callBytes(len(b) + more), s, behindLength(len(b))}
	case 5:
		return thing{func(o *pack.Out) { o.Text(s) }, callText(len(b) + more), s, behindLength(len(b))}
	default:
		h := api.Hash(someBytes(r, 32))
		return thing{func(o *pack.Out) { o.Hash(h) }, callHash(), h, atBegin(32)}
	}
}

// P2.4: whatever was laid is read by the same calls, and then the end is there.
func TestThereAndBack(t *testing.T) {
	r := chance()
	for n := range 300 {
		o := pack.NewOut()
		things, ends := []thing{}, []int{}
		for range n % 40 {
			x := someThing(r)
			x.lay(o)
			things, ends = append(things, x), append(ends, o.Len())
		}
		in := pack.NewIn(o.Done())
		for i, x := range things {
			wantRead(t, in, x.read, x.want, ends[i])
		}
		wantRead(t, in, callEnd(), nil, o.Len())
		wantRead(t, in, callEnd(), nil, o.Len())
	}
}

// P2.3, P2.4: whatever was laid, cut at every place: all ahead of the cut is read, and ErrShort is told at its place.
func TestCutEverywhere(t *testing.T) {
	r := chance()
	for range 20 {
		o := pack.NewOut()
		things, begins := []thing{}, []int{}
		for range 10 {
			x := someThing(r)
			begins = append(begins, o.Len())
			x.lay(o)
			things = append(things, x)
		}
		row := o.Done()
		for end := range row {
			wantCut(t, pack.NewIn(row[:end]), things, begins, end)
		}
	}
}

func wantCut(t *testing.T, in *pack.In, things []thing, begins []int, end int) {
	t.Helper()
	for i, x := range things {
		begin := begins[i]
		if begin+len(x.short) > end {
			wantBad(t, in, x.read, api.ErrShort, begin+x.short[end-begin])
			return
		}
		wantRead(t, in, x.read, x.want, begin+len(x.short))
	}
}

// P2.4: numbers at all edges, there and back.
func TestNumbersBack(t *testing.T) {
	for _, x := range edges() {
		row := laid(func(o *pack.Out) { o.Number(x) })
		wantRead(t, pack.NewIn(row), callNumber(x), x, len(row))
		for _, y := range []int64{int64(x), -int64(x)} {
			row := laid(func(o *pack.Out) { o.Signed(y) })
			wantRead(t, pack.NewIn(row), callSigned(), y, len(row))
		}
	}
}

// wantOneForm asks of a row that whatever it is read as is just its bytes when it is laid again.
func wantOneForm(t *testing.T, row []byte) {
	t.Helper()
	for what, again := range map[string]func(r *pack.In, o *pack.Out) error{
		"Number": func(r *pack.In, o *pack.Out) error { x, err := r.Number(math.MaxUint64); o.Number(x); return err },
		"Signed": func(r *pack.In, o *pack.Out) error { x, err := r.Signed(); o.Signed(x); return err },
		"Bytes":  func(r *pack.In, o *pack.Out) error { x, err := r.Bytes(math.MaxInt); o.Bytes(x); return err },
		"Text":   func(r *pack.In, o *pack.Out) error { x, err := r.Text(math.MaxInt); o.Text(x); return err },
		"Hash":   func(r *pack.In, o *pack.Out) error { x, err := r.Hash(); o.Hash(x); return err },
	} {
		r, o := pack.NewIn(row), pack.NewOut()
		if err := again(r, o); err == nil && !bytes.Equal(o.Done(), row[:r.At()]) {
			t.Fatalf("%s of %x: laid again %x", what, row, o.Done())
		}
	}
}

// P2.5: all rows of up to two bytes, and many others, most of them of bytes that go on or end a number.
func TestOneForm(t *testing.T) {
	wantOneForm(t, nil)
	for x := range 256 {
		wantOneForm(t, []byte{byte(x)})
		for y := range 256 {
			wantOneForm(t, []byte{byte(x), byte(y)})
		}
	}
	r := chance()
	for range 20000 {
		row := someBytes(r, r.IntN(40))
		for i := range row {
			switch r.IntN(4) {
			case 0:
				row[i] |= 0x80
			case 1:
				row[i] = []byte{0x00, 0x01, 0x02, 0x80, 0x81, 0xff}[r.IntN(6)]
			}
		}
		wantOneForm(t, row)
	}
}

// P2.5: no two rows of bytes are read as the same number.
func TestNoTwoRows(t *testing.T) {
	rows := [][]byte{}
	for x := range 256 {
		rows = append(rows, []byte{byte(x)})
		for y := range 256 {
			rows = append(rows, []byte{byte(x), byte(y)})
			for n := 1; n < 10; n++ {
				rows = append(rows, append(bytes.Repeat([]byte{byte(x)}, n), 0x80, byte(y)))
			}
		}
	}
	numbers, signed := map[uint64]string{}, map[int64]string{}
	for _, row := range rows {
		r := pack.NewIn(row)
		if x, err := r.Number(math.MaxUint64); err == nil {
			wantOnly(t, numbers, x, row[:r.At()])
		}
		r = pack.NewIn(row)
		if x, err := r.Signed(); err == nil {
			wantOnly(t, signed, x, row[:r.At()])
		}
	}
	if len(numbers) < 1<<14 || len(signed) != len(numbers) {
		t.Errorf("%d numbers, %d signed ones", len(numbers), len(signed))
	}
}

func wantOnly[T comparable](t *testing.T, seen map[T]string, x T, row []byte) {
	t.Helper()
	if was, ok := seen[x]; ok && was != string(row) {
		t.Fatalf("%x and %x are both read as %v", was, row, x)
	}
	seen[x] = string(row)
}
