package sha_test

import (
	"bytes"
	"slices"
	"strings"
	"testing"

	"pleach/api"
	"pleach/sha"
)

// hashes tells hashes that differ in their first byte alone.
func hashes(first ...byte) []api.Hash {
	l := []api.Hash{}
	for _, x := range first {
		l = append(l, api.Hash{x})
	}
	return l
}

// P1.3: the chapter's examples.
func TestOrderExamples(t *testing.T) {
	if got := sha.Compare(api.Hash{1}, api.Hash{255}); got != -1 {
		t.Errorf("Compare(1, 255): %d", got)
	}
	if got := sha.Sort(hashes(255, 1, 2, 1)); !slices.Equal(got, hashes(1, 2, 255)) {
		t.Errorf("Sort(255, 1, 2, 1): %v", got)
	}
	for _, c := range []struct {
		l    []api.Hash
		want bool
	}{
		{nil, true},
		{hashes(), true},
		{hashes(7), true},
		{hashes(0), true},
		{hashes(1, 2), true},
		{hashes(1, 1), false},
		{hashes(2, 1), false},
		{hashes(0, 1, 127, 128, 255), true},
		{hashes(1, 2, 3, 3), false},
		{hashes(1, 1, 2, 3), false},
		{hashes(1, 2, 4, 3), false},
		{hashes(2, 1, 3, 4), false},
	} {
		if sha.Rising(c.l) != c.want {
			t.Errorf("Rising(%v): %v", c.l, !c.want)
		}
	}
}

// P1.3: the first byte that differs decides, wherever it stands and whatever follows it.
func TestCompareEveryByte(t *testing.T) {
	same := sha.Of([]byte("abc"))
	if sha.Compare(same, same) != 0 || sha.Compare(api.Hash{}, api.Hash{}) != 0 {
		t.Error("Compare of the same")
	}
	for i := range same {
		for _, pair := range [][2]byte{{0, 1}, {127, 128}, {0, 255}, {254, 255}} {
			a, b := same, same
			a[i], b[i] = pair[0], pair[1]
			for j := i + 1; j < len(a); j++ {
				a[j], b[j] = 255, 0
			}
			if sha.Compare(a, b) != -1 || sha.Compare(b, a) != 1 {
				t.Errorf("byte %d, %d and %d", i, pair[0], pair[1])
			}
			if !sha.Rising([]api.Hash{a, b}) || sha.Rising([]api.Hash{b, a}) {
				t.Errorf("Rising: byte %d, %d and %d", i, pair[0], pair[1])
			}
			if got := sha.Sort([]api.Hash{b, a}); !slices.Equal(got, []api.Hash{a, b}) {
				t.Errorf("Sort: byte %d, %d and %d", i, pair[0], pair[1])
			}
		}
	}
}

// P1.3: whatever is sorted rises, and has just what was handed in.
func TestSortMany(t *testing.T) {
	r := chance()
	for n := range 120 {
		l := []api.Hash{}
		want := map[api.Hash]int{}
		for range n {
			h := api.Hash{31: byte(r.IntN(60))}
			if r.IntN(2) == 0 {
				h = api.Hash(someBytes(r, 32))
			}
			l = append(l, h)
			want[h] = 1
			if r.IntN(3) == 0 {
				l = append(l, l[r.IntN(len(l))])
			}
		}
		got := sha.Sort(l)
		if len(got) != len(want) || !sha.Rising(got) {
			t.Fatalf("%d hashes: %d of %d", len(l), len(got), len(want))
		}
		for i, h := range got {
			if want[h] != 1 || i > 0 && bytes.Compare(got[i-1][:], h[:]) >= 0 {
				t.Fatalf("%d hashes: wrong at %d", len(l), i)
			}
		}
	}
}

// P1.3: few hashes, and one that stands many times.
func TestSortEdges(t *testing.T) {
	if len(sha.Sort(nil)) != 0 || len(sha.Sort(hashes())) != 0 {
		t.Error("Sort of none")
	}
	for _, l := range [][]api.Hash{hashes(9), hashes(9, 9), hashes(9, 9, 9, 9, 9)} {
		if got := sha.Sort(l); !slices.Equal(got, hashes(9)) {
			t.Errorf("Sort(%v): %v", l, got)
		}
	}
	if got := sha.Sort(hashes(0, 255, 0, 128, 127, 255)); !slices.Equal(got, hashes(0, 127, 128, 255)) {
		t.Errorf("Sort: %v", got)
	}
}

// P1.5: hashes stand in the order of their texts.
func TestCompareAsTexts(t *testing.T) {
	r := chance()
	for range 2000 {
		a := api.Hash(someBytes(r, 32))
		b := a
		b[r.IntN(32)] = byte(r.Uint32())
		if r.IntN(2) == 0 {
			b = api.Hash(someBytes(r, 32))
		}
		if got, want := sha.Compare(a, b), strings.Compare(sha.Print(a), sha.Print(b)); got != want {
			t.Fatalf("Compare(%s, %s): %d", sha.Print(a), sha.Print(b), got)
		}
	}
}

// P1.6: what is sorted stays as it was, with the room behind it, and the answer is memory of its own, its room too.
func TestSortMemory(t *testing.T) {
	whole := hashes(5, 3, 5, 1, 9, 8, 7)
	want := slices.Clone(whole)
	for n := range len(whole) + 1 {
		got := sha.Sort(whole[:n])
		other := sha.Sort(whole[:n])
		sha.Rising(whole[:n])
		if !slices.Equal(whole, want) {
			t.Fatalf("%d hashes: changed", n)
		}
		first := slices.Clone(other)
		room := got[:cap(got)]
		for i := range room {
			room[i] = api.Hash{77}
		}
		if !slices.Equal(whole, want) || !slices.Equal(other, first) {
			t.Fatalf("%d hashes: an answer shares memory", n)
		}
	}
	rising := hashes(1, 2, 3)
	sha.Sort(rising)[0] = api.Hash{77}
	if !slices.Equal(rising, hashes(1, 2, 3)) {
		t.Error("an answer shares memory with a list that was in order")
	}
}
