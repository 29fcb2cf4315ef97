package op_test

import (
	"encoding/binary"
	"encoding/hex"
	"fmt"
	"math"
	"math/rand/v2"
	"slices"
	"strings"
	"testing"

	"pleach/api"
	"pleach/op"
	"pleach/pack"
)

// What the chapter's words say of operations, told in another way than the package does.

var h1 = api.Hash{31: 1}

// hasText, hasN, hasAt and cellOf are the table, column by column, with the numbers beside the kinds.
var (
	hasText = []int{1, 3, 4, 8}
	hasN    = []int{6}
	hasAt   = []int{8, 9}
	cellOf  = []int{0, 1, 1, 2, 2, 2, 3, 3, 4, 4}
)

// errorOf tells the error of the operation at place i of l.
func errorOf(l []api.Op, i int) api.Errno {
	x := l[i]
	if x.Kind < 1 || x.Kind > 9 {
		return api.ErrKind
	}
	if len(x.Key) > 65536 || len(x.Text) > 65536 {
		return api.ErrBytes
	}
	if x.Text != "" && !slices.Contains(hasText, x.Kind) || x.N != 0 && !slices.Contains(hasN, x.Kind) {
		return api.ErrField
	}
	if !slices.Contains(hasAt, x.Kind) {
		if x.At.Op != 0 || x.At.Node != (api.Hash{}) {
			return api.ErrField
		}
		return api.OK
	}
	if !placeMayBe(l, i) {
		return api.ErrAt
	}
	return api.OK
}

// placeMayBe tells whether the At of the operation at place i of l, an OpInsert or OpDelete, may be.
func placeMayBe(l []api.Op, i int) bool {
	x := l[i]
	if x.At.Node != (api.Hash{}) {
		return 1 <= x.At.Op && x.At.Op <= 1024
	}
	if x.At.Op == 0 {
		return x.Kind == 8
	}
	for j, y := range l[:i] {
		if j+1 == x.At.Op {
			return y.Kind == 8 && y.Key == x.Key
		}
	}
	return false
}

// checkOf tells what Check should answer.
func checkOf(l []api.Op) (api.Errno, int) {
	if len(l) > 1024 {
		return api.ErrMany, 0
	}
	for i := range l {
		if e := errorOf(l, i); e != api.OK {
			return e, i
		}
	}
	return api.OK, 0
}

// formOf tells the form of operations that may be.
func formOf(l []api.Op) []byte {
	b := binary.AppendUvarint(nil, uint64(len(l)))
	bytes := func(s string) { b = append(binary.AppendUvarint(b, uint64(len(s))), s...) }
	for _, x := range l {
		b = append(b, byte(x.Kind))
		bytes(x.Key)
		if slices.Contains(hasText, x.Kind) {
			bytes(x.Text)
		}
		if slices.Contains(hasN, x.Kind) {
			b = binary.AppendVarint(b, x.N)
		}
		if slices.Contains(hasAt, x.Kind) {
			b = binary.AppendUvarint(b, uint64(x.At.Op))
			if x.At.Op != 0 {
				b = append(b, x.At.Node[:]...)
			}
		}
	}
	return b
}

// must gives up reading at an error; getOf catches it.
func must[T any](x T, err error) T {
	if err != nil {
		panic(err)
	}
	return x
}

// getOf tells what Get should answer where r stands: operations, or what is wrong.
func getOf(r *pack.In) (l []api.Op, bad *api.Bad) {
	defer func() {
		if x := recover(); x != nil {
			l, bad = nil, x.(*api.Bad)
		}
	}()
	n := int(must(r.Number(1024)))
	for i := 0; i < n; i++ {
		at := r.At()
		x := api.Op{Kind: int(must(r.Byte()))}
		if x.Kind == 0 || x.Kind >= 10 {
			panic(&api.Bad{Why: api.ErrKind, At: at})
		}
		x.Key = string(must(r.Bytes(65536)))
		if slices.Contains(hasText, x.Kind) {
			x.Text = string(must(r.Bytes(65536)))
		}
		if slices.Contains(hasN, x.Kind) {
			x.N = must(r.Signed())
		}
		at = r.At()
		if slices.Contains(hasAt, x.Kind) {
			if x.At.Op = int(must(r.Number(1024))); x.At.Op > 0 {
				x.At.Node = must(r.Hash())
			}
		}
		l = append(l, x)
		if slices.Contains(hasAt, x.Kind) && !placeMayBe(l, i) {
			panic(&api.Bad{Why: api.ErrAt, At: at})
		}
	}
	return l, nil
}

// chance tells numbers that look random, and are the same at every run.
func chance() *rand.Rand { return rand.New(rand.NewPCG(1, 2)) }

// one tells one of a list.
func one[T any](r *rand.Rand, of ...T) T { return of[r.IntN(len(of))] }

func someText(r *rand.Rand) string {
	return one(r, "", "k", "l", "m", "\x00", "\xff\x80", strings.Repeat("ab", 70))
}

// someHash tells one that isn't zero, some with a single byte that isn't.
func someHash(r *rand.Rand) api.Hash {
	h := api.Hash{}
	if r.IntN(2) == 0 {
		h[r.IntN(32)] = byte(1 + r.IntN(255))
		return h
	}
	for i := range h {
		h[i] = byte(r.Uint32())
	}
	h[31] |= 1
	return h
}

// someOps tells n operations that may be, of all kinds, lists most of all.
func someOps(r *rand.Rand, n int) []api.Op {
	l := []api.Op{}
	for len(l) < n {
		x := api.Op{Kind: one(r, 1, 2, 3, 4, 5, 6, 7, 8, 8, 8, 9, 9), Key: someText(r)}
		if slices.Contains(hasText, x.Kind) {
			x.Text = someText(r)
		}
		if slices.Contains(hasN, x.Kind) {
			x.N = one(r, 0, 1, -1, 63, 64, -64, -65, math.MinInt64, math.MaxInt64, int64(r.Uint64()))
		}
		if slices.Contains(hasAt, x.Kind) {
			x.At = somePlace(r, len(l)+1)
		}
		if l = append(l, x); errorOf(l, len(l)-1) != api.OK {
			l = l[:len(l)-1] // an At that names no item: another one
		}
	}
	return l
}

// somePlace tells an At for the operation of number n, that may be or not.
func somePlace(r *rand.Rand, n int) api.Ident {
	return one(r,
		api.Ident{},
		api.Ident{Op: r.IntN(n)},
		api.Ident{Node: someHash(r), Op: one(r, 1, 127, 128, 1024, 1+r.IntN(1024))})
}

// allKinds tells an operation of each kind, with its fields set, each of which may be; an OpDelete behind it may name {zero, 8}.
func allKinds() []api.Op {
	return []api.Op{
		{Kind: 1, Key: "k", Text: "v"},
		{Kind: 2, Key: "k"},
		{Kind: 3, Key: "k", Text: "v"},
		{Kind: 4, Key: "k", Text: "v"},
		{Kind: 5, Key: "k"},
		{Kind: 6, Key: "k", N: -5},
		{Kind: 7, Key: "k"},
		{Kind: 8, Key: "k", Text: "v", At: api.Ident{Node: h1, Op: 3}},
		{Kind: 9, Key: "k", At: api.Ident{Node: h1, Op: 3}},
	}
}

// fill tells n operations that may be.
func fill(n int) []api.Op {
	l := make([]api.Op, n)
	for i := range l {
		l[i] = api.Op{Kind: 7, Key: "k"}
	}
	return l
}

// long tells a text of so many bytes.
func long(n int) string { return strings.Repeat("x", n) }

// fromHex tells bytes of their digits, with spaces between.
func fromHex(text string) []byte {
	b, err := hex.DecodeString(strings.ReplaceAll(text, " ", ""))
	if err != nil {
		panic(err)
	}
	return b
}

// sameOps tells, without the package's help, whether operations are the same.
func sameOps(a, b []api.Op) bool { return slices.Equal(a, b) }

// show tells operations for a message, as far as it has room.
func show(l []api.Op) string {
	s := fmt.Sprintf("%#v", l)
	return s[:min(len(s), 300)]
}

// wantCheck: Check answers so, and leaves what it is given.
func wantCheck(t *testing.T, why api.Errno, at int, l ...api.Op) {
	t.Helper()
	was := slices.Clone(l)
	if e, n := op.Check(l); e != why || n != at {
		t.Errorf("Check of %d, the last %s: error %d, %d, want %d, %d", len(l), show(l[max(0, len(l)-1):]), e, n, why, at)
	}
	if !sameOps(l, was) {
		t.Error("Check changed what it was given")
	}
}
