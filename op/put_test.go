package op_test

import (
	"bytes"
	"math"
	"slices"
	"strings"
	"testing"

	"pleach/api"
	"pleach/op"
	"pleach/pack"
)

const zeroHash = "0000000000000000000000000000000000000000000000000000000000000000"

// laidOf tells what Put lays of operations that may be.
func laidOf(t *testing.T, l []api.Op) []byte {
	t.Helper()
	o := pack.NewOut()
	if e := op.Put(o, l); e != api.OK {
		t.Fatalf("Put: error %d", e)
	}
	return o.Done()
}

// P4.2: the chapter's examples, and each kind once.
func TestPutExamples(t *testing.T) {
	insert := api.Op{Kind: api.OpInsert, Key: "l", Text: "x"}
	hash1 := zeroHash[:62] + "01"
	for _, c := range []struct {
		want string
		l    []api.Op
	}{
		{"00", nil},
		{"00", []api.Op{}},
		{"01 01 01 6b 01 76", []api.Op{{Kind: api.OpPut, Key: "k", Text: "v"}}},
		{"01 06 01 6b 01", []api.Op{{Kind: api.OpIncr, Key: "k", N: -1}}},
		{"01 05 00", []api.Op{{Kind: api.OpWipe}}},
		{"01 08 01 6c 01 78 00", []api.Op{insert}},
		{"02 08 01 6c 01 78 00 09 01 6c 01" + zeroHash, []api.Op{insert, {Kind: api.OpDelete, Key: "l", At: api.Ident{Op: 1}}}},
		{"01 09 01 6c 07" + hash1, []api.Op{{Kind: api.OpDelete, Key: "l", At: api.Ident{Node: h1, Op: 7}}}},
		{"01 02 01 6b", []api.Op{{Kind: api.OpClear, Key: "k"}}},
		{"01 03 01 6b 01 76", []api.Op{{Kind: api.OpAdd, Key: "k", Text: "v"}}},
		{"01 04 01 6b 01 76", []api.Op{{Kind: api.OpRemove, Key: "k", Text: "v"}}},
		{"01 07 01 6b", []api.Op{{Kind: api.OpZero, Key: "k"}}},
		{"01 01 00 00", []api.Op{{Kind: api.OpPut}}},
		{"01 08 00 00 80 08" + hash1, []api.Op{{Kind: api.OpInsert, At: api.Ident{Node: h1, Op: 1024}}}},
		{"01 06 00 00", []api.Op{{Kind: api.OpIncr}}},
		{"01 06 00 ff ff ff ff ff ff ff ff ff 01", []api.Op{{Kind: api.OpIncr, N: math.MinInt64}}},
		{"01 06 00 fe ff ff ff ff ff ff ff ff 01", []api.Op{{Kind: api.OpIncr, N: math.MaxInt64}}},
		{"80 08" + strings.Repeat("07 01 6b", 1024), fill(1024)},
		{"01 01 80 80 04" + strings.Repeat("78", 65536) + "00", []api.Op{{Kind: api.OpPut, Key: long(65536)}}},
	} {
		if got := laidOf(t, c.l); !bytes.Equal(got, fromHex(c.want)) {
			t.Errorf("Put, want %.100s: %.60x", c.want, got)
		}
	}
}

// P4.2: all operations that may be, against the chapter's words, behind whatever was laid; more may be laid behind them.
func TestPutWords(t *testing.T) {
	r := chance()
	o, want := pack.NewOut(), []byte{}
	for n := range 400 {
		l := someOps(r, n%30)
		if e := op.Put(o, l); e != api.OK {
			t.Fatalf("error %d", e)
		}
		o.Byte(byte(n))
		want = append(append(want, formOf(l)...), byte(n))
		if o.Len() != len(want) {
			t.Fatalf("%d bytes are laid, want %d", o.Len(), len(want))
		}
	}
	if !bytes.Equal(o.Done(), want) {
		t.Error("other bytes were laid")
	}
}

// P4.2: what Check refuses, Put refuses with the same error, and lays nothing.
func TestPutRefused(t *testing.T) {
	lists := [][]api.Op{
		{{}}, {{Kind: 10}}, {{Kind: -1}}, {{Kind: 257, Key: "k"}}, {{Kind: 1, Key: long(65537)}}, {{Kind: 5, Text: long(65537)}},
		{{Kind: 2, Text: "v"}}, {{Kind: 1, N: 1}}, {{Kind: 9}}, {{Kind: 8, At: api.Ident{Op: 1}}}, {{Kind: 8, At: api.Ident{Node: h1}}},
		fill(1025), make([]api.Op, 1025),
		append(fill(1023), api.Op{}), append(allKinds(), api.Op{Kind: 9, Key: "l", At: api.Ident{Op: 8}}),
	}
	r := chance()
	for range 3000 {
		l := someOps(r, 1+r.IntN(8))
		spoilOp(&l[r.IntN(len(l))], func(n int) int { return r.IntN(n) })
		lists = append(lists, l)
	}
	refused := 0
	for _, l := range lists {
		o := pack.NewOut()
		o.Text("ahead")
		was := o.Done()
		want, _ := checkOf(l)
		if want == api.OK {
			continue
		}
		refused++
		if e := op.Put(o, l); e != want || !bytes.Equal(o.Done(), was) || o.Len() != len(was) {
			t.Fatalf("Put of %s: error %d, want %d; %d bytes are laid", show(l), e, want, o.Len())
		}
	}
	if refused < 1000 {
		t.Errorf("only %d were refused", refused)
	}
}

// P4.6: what is handed to Put stays as it was, the room behind it too, and counts no more when it is written over.
func TestPutMemory(t *testing.T) {
	r := chance()
	for n := range 20 {
		whole := someOps(r, 40)
		was := slices.Clone(whole)
		o := pack.NewOut()
		if e := op.Put(o, whole[:n]); e != api.OK || !sameOps(whole, was) {
			t.Fatalf("%d operations: error %d, or changed", n, e)
		}
		clear(whole)
		if !bytes.Equal(o.Done(), formOf(was[:n])) {
			t.Fatalf("%d operations: kept", n)
		}
		if e := op.Put(o, whole[:1]); e != api.ErrKind {
			t.Fatalf("a zero operation: error %d", e)
		}
	}
}
