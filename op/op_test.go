package op_test

import (
	"math"
	"slices"
	"testing"

	"pleach/api"
	"pleach/op"
)

// P4.1: the chapter's examples.
func TestCheckExamples(t *testing.T) {
	insert := api.Op{Kind: api.OpInsert, Key: "l", Text: "x"}
	insertAt := func(key string, at api.Ident) api.Op {
		return api.Op{Kind: api.OpInsert, Key: key, Text: "x", At: at}
	}
	deleteAt := func(at api.Ident) api.Op { return api.Op{Kind: api.OpDelete, Key: "l", At: at} }
	wantCheck(t, api.OK, 0)
	wantCheck(t, api.ErrKind, 0, api.Op{})
	wantCheck(t, api.ErrKind, 1, api.Op{Kind: api.OpPut, Key: "k", Text: "v"}, api.Op{Kind: 10})
	wantCheck(t, api.ErrField, 0, api.Op{Kind: api.OpClear, Key: "k", Text: "v"})
	wantCheck(t, api.OK, 0, api.Op{Kind: api.OpIncr, Key: "k"})
	wantCheck(t, api.ErrMany, 0, fill(1025)...)
	wantCheck(t, api.ErrAt, 0, deleteAt(api.Ident{}))
	wantCheck(t, api.OK, 0, insert, deleteAt(api.Ident{Op: 1}))
	wantCheck(t, api.ErrAt, 0, insertAt("l", api.Ident{Op: 1}))
	wantCheck(t, api.ErrAt, 1, insert, insertAt("m", api.Ident{Op: 1}))
	wantCheck(t, api.ErrAt, 0, insertAt("l", api.Ident{Node: h1}))
	wantCheck(t, api.ErrAt, 0, insertAt("l", api.Ident{Node: h1, Op: 1025}))
	wantCheck(t, api.OK, 0, insertAt("l", api.Ident{Node: h1, Op: 7}))
}

// P4.1: each kind may be, with its fields set and with none of them but an OpDelete's At; no other number is a kind, at no place.
func TestCheckKinds(t *testing.T) {
	if l := allKinds(); len(l) != api.OpDelete {
		t.Fatalf("%d kinds", len(l))
	}
	wantCheck(t, api.OK, 0, allKinds()...)
	for _, x := range allKinds() {
		wantCheck(t, api.OK, 0, x)
		bare := api.Op{Kind: x.Kind}
		if x.Kind == api.OpDelete {
			bare.At = x.At
		}
		wantCheck(t, api.OK, 0, bare)
	}
	for _, kind := range []int{0, -1, -9, 10, 11, 255, 256, 257, 265, 1<<32 + 1, math.MaxInt, math.MinInt, math.MinInt + 1} {
		for _, n := range []int{0, 1, 9, 1023} {
			wantCheck(t, api.ErrKind, n, append(fill(n), api.Op{Kind: kind, Key: "k"})...)
			wantCheck(t, api.ErrKind, n, append(fill(n), api.Op{Kind: kind})...)
		}
	}
}

// P4.1: no operation, MaxOps of them, and one more, whatever else is wrong with them.
func TestCheckMany(t *testing.T) {
	wantCheck(t, api.OK, 0, []api.Op{}...)
	wantCheck(t, api.OK, 0, fill(1)...)
	wantCheck(t, api.OK, 0, fill(1023)...)
	wantCheck(t, api.OK, 0, fill(1024)...)
	wantCheck(t, api.ErrMany, 0, fill(1025)...)
	wantCheck(t, api.ErrMany, 0, fill(3000)...)
	wantCheck(t, api.ErrMany, 0, make([]api.Op, 1025)...) // and not ErrKind
	wantCheck(t, api.ErrKind, 0, make([]api.Op, 1024)...)
	wantCheck(t, api.ErrMany, 0, append(fill(1024), api.Op{Kind: 1, Key: long(65537)})...)
	wantCheck(t, api.ErrBytes, 1023, append(fill(1023), api.Op{Kind: 1, Key: long(65537)})...)
}

// P4.1: a Key, and a Text, of no bytes, of just so many as may be, and of one more; of whatever kind.
func TestCheckBytes(t *testing.T) {
	for _, x := range allKinds() {
		for _, n := range []int{0, 1, 65535, 65536} {
			x.Key = long(n)
			wantCheck(t, api.OK, 0, x)
		}
		for _, n := range []int{65537, 200000} {
			x.Key = long(n)
			wantCheck(t, api.ErrBytes, 0, x)
		}
	}
	for _, x := range allKinds() {
		for _, n := range []int{1, 65535, 65536} {
			x.Text = long(n)
			if slices.Contains(hasText, x.Kind) {
				wantCheck(t, api.OK, 0, x)
			} else {
				wantCheck(t, api.ErrField, 0, x)
			}
		}
		x.Text = long(65537)
		wantCheck(t, api.ErrBytes, 0, x) // ahead of ErrField
	}
	wantCheck(t, api.OK, 0, api.Op{Kind: 8, Key: long(65536), Text: long(65536)})
	wantCheck(t, api.OK, 0, api.Op{Kind: 1, Key: "\x00\xff\x80", Text: "\xc3\x28"}) // any bytes
}

// P4.1: of each kind each field that the table doesn't name, set in many ways; and those that it does.
func TestCheckFields(t *testing.T) {
	count := 0
	want := func(named bool, x api.Op) {
		t.Helper()
		count++
		if named {
			wantCheck(t, api.OK, 0, x)
			wantCheck(t, api.OK, 0, append(fill(5), x)...)
		} else {
			wantCheck(t, api.ErrField, 0, x)
			wantCheck(t, api.ErrField, 5, append(fill(5), x)...)
		}
	}
	for _, x := range allKinds() {
		for _, text := range []string{"v", "\x00", long(65536)} {
			y := x
			y.Text = text
			want(slices.Contains(hasText, x.Kind), y)
		}
		for _, n := range []int64{1, -1, 1 << 32, math.MinInt64, math.MaxInt64} {
			y := x
			y.N = n
			want(slices.Contains(hasN, x.Kind), y)
		}
		for _, at := range []api.Ident{{Node: h1, Op: 1}, {Node: api.Hash{0: 1}, Op: 1024}} {
			y := x
			y.At = at
			want(slices.Contains(hasAt, x.Kind), y)
		}
		for _, at := range []api.Ident{{Op: 1}, {Op: -1}, {Op: math.MinInt}, {Node: h1}, {Node: api.Hash{0: 1}}, {Node: api.Hash{16: 128}}} {
			if y := x; !slices.Contains(hasAt, x.Kind) {
				y.At = at
				want(false, y)
			}
		}
	}
	if count != 9*10+7*6 {
		t.Errorf("%d looked at", count)
	}
}

// ahead tells operations of which the numbers 1 and 4 are an OpInsert of "l", number 2 one of "m", the others none.
func ahead() []api.Op {
	return []api.Op{
		{Kind: 8, Key: "l", Text: "x"},
		{Kind: 8, Key: "m", Text: "x"},
		{Kind: 9, Key: "l", At: api.Ident{Op: 1}},
		{Kind: 8, Key: "l", At: api.Ident{Op: 1}},
		{Kind: 1, Key: "l"},
		{Kind: 3, Key: "l"},
		{Kind: 7, Key: "l"},
	}
}

// P4.1: an At of its own transaction, of OpInsert and OpDelete, by every number from below 0 to above MaxOps.
func TestCheckOwnPlaces(t *testing.T) {
	l := ahead()
	wantCheck(t, api.OK, 0, l...)
	for _, kind := range []int{8, 9} {
		for _, n := range []int{-1, 0, 1, 2, 3, 4, 5, 6, 7, 8, 9, 1023, 1024, 1025, 1 << 32, 1<<32 + 1, math.MaxInt, math.MinInt, -math.MaxInt} {
			for _, key := range []string{"l", "m", "", "L"} {
				may := n == 0 && kind == 8 || key == "l" && (n == 1 || n == 4) || key == "m" && n == 2
				x := api.Op{Kind: kind, Key: key, At: api.Ident{Op: n}}
				if may {
					wantCheck(t, api.OK, 0, append(l, x)...)
				} else {
					wantCheck(t, api.ErrAt, 7, append(l, x)...)
				}
				if n == 0 && kind == 8 {
					wantCheck(t, api.OK, 0, x)
				} else {
					wantCheck(t, api.ErrAt, 0, x) // with nothing ahead of it
				}
			}
		}
	}
}

// P4.1: an At may name an OpInsert that stands anywhere ahead, up to the very last one, and none that stands behind.
func TestCheckFarPlaces(t *testing.T) {
	for _, n := range []int{2, 3, 100, 1024} { // the number of the operation
		for at := range n {
			l := fill(n)
			l[at] = api.Op{Kind: 8, Key: "l"}
			for _, kind := range []int{8, 9} {
				l[n-1] = api.Op{Kind: kind, Key: "l", At: api.Ident{Op: at + 1}}
				if at+1 < n {
					wantCheck(t, api.OK, 0, l...)
				} else {
					wantCheck(t, api.ErrAt, n-1, l...) // it names itself
				}
			}
		}
	}
	l := fill(10)
	l[4] = api.Op{Kind: 9, Key: "l", At: api.Ident{Op: 6}}
	l[5] = api.Op{Kind: 8, Key: "l"}
	wantCheck(t, api.ErrAt, 4, l...)
}

// P4.1: an At in another transaction: any number from 1 to MaxOps, whatever stands ahead; each byte of the Node makes it none of its own.
func TestCheckOtherPlaces(t *testing.T) {
	for i := range 32 {
		h := api.Hash{}
		h[i] = byte(1 + i)
		for _, kind := range []int{8, 9} {
			for _, n := range []int{1, 2, 3, 7, 8, 9, 1023, 1024} {
				x := api.Op{Kind: kind, Key: "other", At: api.Ident{Node: h, Op: n}}
				wantCheck(t, api.OK, 0, x)
				wantCheck(t, api.OK, 0, append(ahead(), x)...)
			}
			for _, n := range []int{0, -1, 1025, 1 << 32, 1<<32 + 1, math.MaxInt, math.MinInt} {
				x := api.Op{Kind: kind, Key: "l", At: api.Ident{Node: h, Op: n}}
				wantCheck(t, api.ErrAt, 0, x)
				wantCheck(t, api.ErrAt, 7, append(ahead(), x)...)
			}
		}
	}
}

// P4.1: of several errors of an operation the first one is told.
func TestCheckFirstError(t *testing.T) {
	for wrong := range 32 {
		for _, kind := range []int{8, 9} {
			x := api.Op{Kind: kind, Key: "l", At: api.Ident{Node: h1, Op: 1}}
			want := api.OK
			if wrong&16 != 0 {
				x.At.Op, want = 0, api.ErrAt
			}
			if wrong&8 != 0 {
				x.N, want = 1, api.ErrField
			}
			if wrong&4 != 0 {
				x.Text, want = long(65537), api.ErrBytes
			}
			if wrong&2 != 0 {
				x.Key, want = long(65537), api.ErrBytes
			}
			if wrong&1 != 0 {
				x.Kind, want = 10, api.ErrKind
			}
			at := 0
			if want != api.OK {
				at = 3
			}
			wantCheck(t, want, at, append(fill(3), x)...)
		}
	}
}

// P4.1: of several operations that may not be the first one is told, with its error, whatever the others' are.
func TestCheckFirstOperation(t *testing.T) {
	bad := []struct {
		x   api.Op
		why api.Errno
	}{
		{api.Op{}, api.ErrKind},
		{api.Op{Kind: 1, Key: long(65537)}, api.ErrBytes},
		{api.Op{Kind: 2, N: 1}, api.ErrField},
		{api.Op{Kind: 9}, api.ErrAt},
	}
	for _, a := range bad {
		for _, b := range bad {
			wantCheck(t, a.why, 1, fill(1)[0], a.x, fill(1)[0], b.x)
			wantCheck(t, a.why, 0, a.x, b.x)
		}
	}
}

// P4.1: many operations, most with something turned in them, against the chapter's words.
func TestCheckWords(t *testing.T) {
	r := chance()
	told := map[api.Errno]int{}
	for range 20000 {
		l := someOps(r, 1+r.IntN(12))
		for range r.IntN(3) {
			spoilOp(&l[r.IntN(len(l))], func(n int) int { return r.IntN(n) })
		}
		why, at := checkOf(l)
		told[why]++
		wantCheck(t, why, at, l...)
	}
	for _, why := range []api.Errno{api.OK, api.ErrKind, api.ErrField, api.ErrAt} {
		if told[why] < 500 {
			t.Errorf("error %d: only %d times", why, told[why])
		}
	}
}

// spoilOp turns a field of an operation.
func spoilOp(x *api.Op, chance func(n int) int) {
	switch chance(6) {
	case 0:
		x.Kind = chance(12) - 1
	case 1:
		x.Key += "k"
	case 2:
		x.Text += "v"
	case 3:
		x.N++
	case 4:
		x.At.Op += chance(5) - 2
	case 5:
		x.At.Node[chance(32)] ^= 1
	}
}

// P4.4: each field counts, and all of each, of operations that may be and of others.
func TestSame(t *testing.T) {
	list := append(allKinds(), api.Op{}, api.Op{Kind: -1, N: 7, At: api.Ident{Op: -1}}, api.Op{Kind: 99, Key: long(70000), Text: long(70000)})
	for i, a := range list {
		for j, b := range list {
			if op.Same(a, b) != (i == j) {
				t.Errorf("Same of %d and %d: %v", i, j, op.Same(a, b))
			}
		}
		for field, turn := range turns() {
			b := a
			turn(&b)
			if op.Same(a, b) || op.Same(b, a) || !op.Same(b, b) {
				t.Errorf("Same of %d and of it with another %s", i, field)
			}
		}
	}
	if !op.Same(api.Op{Key: string([]byte("k"))}, api.Op{Key: string([]byte("k"))}) {
		t.Error("the same Key at two places of memory")
	}
}

// turns tells ways to turn an operation into another one, by what they turn.
func turns() map[string]func(x *api.Op) {
	m := map[string]func(x *api.Op){
		"Kind":             func(x *api.Op) { x.Kind += 256 },
		"Key, longer":      func(x *api.Op) { x.Key += "\x00" },
		"Key, before":      func(x *api.Op) { x.Key = "\x00" + x.Key },
		"Text, longer":     func(x *api.Op) { x.Text += "\x00" },
		"Text, before":     func(x *api.Op) { x.Text = "\x00" + x.Text },
		"N":                func(x *api.Op) { x.N++ },
		"N, its high bits": func(x *api.Op) { x.N ^= math.MinInt64 },
		"Op":               func(x *api.Op) { x.At.Op-- },
		"Op, its high bit": func(x *api.Op) { x.At.Op ^= math.MinInt },
	}
	for i := range 32 {
		m["Node at "+string(rune('A'+i))] = func(x *api.Op) { x.At.Node[i] ^= 128 }
	}
	return m
}

// P4.4: the kinds of the table, and numbers that are none.
func TestCell(t *testing.T) {
	for kind := -300; kind <= 600; kind++ {
		want := api.CellNone
		if kind >= 0 && kind < len(cellOf) {
			want = cellOf[kind]
		}
		if got := op.Cell(kind); got != want {
			t.Errorf("Cell(%d): %d", kind, got)
		}
	}
	for _, kind := range []int{math.MaxInt, math.MinInt, 1<<32 + 1, 1<<16 + 1} {
		if got := op.Cell(kind); got != api.CellNone {
			t.Errorf("Cell(%d): %d", kind, got)
		}
	}
	for kind, want := range map[int]int{
		api.OpPut: api.CellRegister, api.OpClear: api.CellRegister,
		api.OpAdd: api.CellSet, api.OpRemove: api.CellSet, api.OpWipe: api.CellSet,
		api.OpIncr: api.CellCounter, api.OpZero: api.CellCounter,
		api.OpInsert: api.CellList, api.OpDelete: api.CellList, api.OpNone: api.CellNone,
	} {
		if got := op.Cell(kind); got != want {
			t.Errorf("Cell(%d): %d", kind, got)
		}
	}
}

// P4.6: what is handed to Check stays as it was, the room behind it too.
func TestCheckMemory(t *testing.T) {
	r := chance()
	for n := range 20 {
		whole := someOps(r, 40)
		was := slices.Clone(whole)
		op.Check(whole[:n])
		if !sameOps(whole, was) {
			t.Fatalf("%d operations: changed", n)
		}
	}
}
