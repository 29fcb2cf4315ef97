package op_test

import (
	"bytes"
	"testing"

	"pleach/api"
	"pleach/op"
	"pleach/pack"
)

// P4.5: what Put lays, Get reads as the same operations, wherever it stands.
func TestThereAndBack(t *testing.T) {
	r := chance()
	for n := range 500 {
		l := someOps(r, n%50)
		from := r.IntN(50)
		o := pack.NewOut()
		o.Raw(make([]byte, from))
		if e := op.Put(o, l); e != api.OK {
			t.Fatalf("error %d", e)
		}
		end := o.Len()
		o.Text("behind")
		in := readTo(o.Done(), from)
		wantOps(t, in, l, end)
		if s, err := in.Text(6); s != "behind" || err != nil || in.End() != nil {
			t.Fatalf("behind the operations: %q, %v", s, err)
		}
	}
	l := someOps(r, 1024)
	row := laidOf(t, l)
	wantOps(t, pack.NewIn(row), l, len(row))
}

// wantOneForm: if Get takes a row, what it has read may be, and Put of it lays just the bytes that were read.
func wantOneForm(t *testing.T, row []byte) bool {
	t.Helper()
	r := pack.NewIn(row)
	l, err := op.Get(r)
	if err != nil {
		return false
	}
	if e, _ := op.Check(l); e != api.OK {
		t.Fatalf("%x is read, and Check of it: error %d", row, e)
	}
	o := pack.NewOut()
	if e := op.Put(o, l); e != api.OK || !bytes.Equal(o.Done(), row[:r.At()]) {
		t.Fatalf("%x: laid again %x, error %d", row[:r.At()], o.Done(), e)
	}
	return true
}

// P4.5: all rows of up to three bytes, as far as they can be taken, and rows with many bytes turned.
func TestOneForm(t *testing.T) {
	taken := 0
	count := func(row ...byte) {
		if wantOneForm(t, row) {
			taken++
		}
	}
	count()
	for x := range 256 {
		count(byte(x))
		for y := range 256 {
			count(1, byte(x), byte(y))
			count(1, byte(x), 0, byte(y), 0, 0)
			count(1, 6, 0, byte(x), byte(y))
			count(2, byte(x), 0, 0, 0, byte(y), 0, 0, 0)
		}
	}
	r := chance()
	for range 30000 {
		row := laidOf(t, someOps(r, r.IntN(6)))
		for range r.IntN(4) {
			row[r.IntN(len(row))] = one(r, 0, 1, 2, 6, 8, 9, 0x80, 0x81, byte(r.Uint32()))
		}
		count(row...)
	}
	if taken < 5000 {
		t.Errorf("only %d rows were taken", taken)
	}
}

// P4.5: no two lists of operations have one form.
func TestFormsApart(t *testing.T) {
	r := chance()
	by := map[string][]api.Op{}
	for range 20000 {
		l := someOps(r, r.IntN(4))
		row := string(laidOf(t, l))
		if was, ok := by[row]; ok && !sameOps(was, l) {
			t.Fatalf("%x is the form of %s and of %s", row, show(was), show(l))
		}
		by[row] = l
	}
}
