package mesh_test

import (
	"fmt"
	"strings"
	"testing"

	"pleach/api"
	"pleach/mesh"
)

// marks tells so many messages, no two alike.
func marks(n int) []string {
	l := []string{}
	for i := range n {
		l = append(l, fmt.Sprint("mark ", i))
	}
	return l
}

// wantFull fails, if a link takes one more; every other call goes on.
func wantFull(t *testing.T, what string, m *mesh.Mesh, from, to int) {
	t.Helper()
	if n := m.Len(from, to); n != 1024 {
		t.Errorf("%s: Len: %d", what, n)
	}
	wantE(t, what+": Send", m.Send(from, to, nil), api.ErrMany)
	wantE(t, what+": Send", m.Send(from, to, []byte("x")), api.ErrMany)
	wantE(t, what+": Send of the longest", m.Send(from, to, make([]byte, api.MaxMessage+42)), api.ErrMany)
	wantE(t, what+": Send of too long a one", m.Send(from, to, make([]byte, api.MaxMessage+43)), api.ErrBytes)
	for _, i := range []int{0, 1, 511, 1023} {
		wantE(t, what+": Twice", m.Twice(from, to, i), api.ErrMany)
	}
	for _, i := range []int{-1, 1024, least, most} {
		wantE(t, what+": Twice of none", m.Twice(from, to, i), api.ErrRange)
		wantE(t, what+": Drop of none", m.Drop(from, to, i), api.ErrRange)
	}
	if n := m.Len(from, to); n != 1024 {
		t.Errorf("%s: Len: %d", what, n)
	}
}

// P21.1: as many messages as a link takes by Send, and one more, on each link, beside links that are full and such as aren't.
func TestFullLinks(t *testing.T) {
	m := made(t, 8)
	l := marks(1024)
	for _, p := range pairs(8) {
		send(t, m, p[0], p[1], l[:1023]...)
	}
	for _, p := range pairs(8) {
		send(t, m, p[0], p[1], l[1023])
		wantE(t, "one more", m.Send(p[0], p[1], nil), api.ErrMany)
		wantE(t, "one more", m.Twice(p[0], p[1], 1023), api.ErrMany)
	}
	wantFull(t, "full", m, 8, 1)
	for _, p := range pairs(8) {
		wantLeft(t, "full", m, p[0], p[1], l...)
	}
}

// P21.1: as many as a link takes by Twice, and one more.
func TestFullByTwice(t *testing.T) {
	m := with(t, "a", "b")
	want := []string{"a", "b"}
	for i := 2; i < 1024; i++ {
		wantE(t, "Twice", m.Twice(1, 2, i%2), api.OK)
		want = append(want, want[i%2])
	}
	wantFull(t, "full by Twice", m, 1, 2)
	wantLeft(t, "full by Twice", m, 1, 2, want...)
}

// P21.1: a full link takes one more behind each that is under way no more, by Take, Drop or Clear; Swap, Flip and Clip go on, and give no room.
func TestFullAndNot(t *testing.T) {
	l := marks(1024)
	m := with(t, l...)
	wantE(t, "Swap", m.Swap(1, 2, 0, 1023), api.OK)
	wantE(t, "Flip", m.Flip(1, 2, 1023, 0, 1), api.OK)
	wantE(t, "Clip", m.Clip(1, 2, 1, 0), api.OK)
	wantFull(t, "spoilt", m, 1, 2)
	want := append([]string{}, l...)
	want[0], want[1], want[1023] = l[1023], "", "lark 0"

	for i := range 1500 {
		var e api.Errno
		switch i % 3 {
		case 0:
			b, err := m.Take(1, 2)
			if err != nil || string(b) != want[0] {
				t.Fatalf("Take: %q, %v; want %q", b, err, want[0])
			}
			want = want[1:]
		case 1:
			wantE(t, "Drop of the last", m.Drop(1, 2, 1023), api.OK)
			want = want[:1023]
		case 2:
			wantE(t, "Drop", m.Drop(1, 2, 400), api.OK)
			want = append(append([]string{}, want[:400]...), want[401:]...)
		}
		if i%2 == 0 {
			e = m.Send(1, 2, []byte(l[i%1024]))
			want = append(want, l[i%1024])
		} else {
			e = m.Twice(1, 2, 7)
			want = append(want, want[7])
		}
		wantE(t, "one more", e, api.OK)
		wantE(t, "and one more", m.Send(1, 2, nil), api.ErrMany)
	}
	wantFull(t, "full again", m, 1, 2)
	wantLeft(t, "full again", m, 1, 2, want...)

	send(t, m, 1, 2, l...)
	wantE(t, "Clear", m.Clear(1, 2), api.OK)
	send(t, m, 1, 2, l...)
	wantFull(t, "full behind Clear", m, 1, 2)
	wantLeft(t, "full behind Clear", m, 1, 2, l...)
}

// P21.1: messages of as many bytes as may be, of one more, and of many more.
func TestLongest(t *testing.T) {
	if api.MaxMessage+42 != 2097194 {
		t.Fatal("the limit is another one")
	}
	long := strings.Repeat("0123456789abcde", 2097194/15+1)[:2097194]
	m := with(t, long[1:], long, "")
	for _, n := range []int{2097195, 2097196, 1 << 22} {
		wantE(t, "too long", m.Send(1, 2, make([]byte, n)), api.ErrBytes)
	}
	wantE(t, "Twice", m.Twice(1, 2, 1), api.OK)
	wantE(t, "Flip of the last byte", m.Flip(1, 2, 1, -1, 3), api.OK)
	wantE(t, "Flip of the first byte", m.Flip(1, 2, 1, 2097194, 3), api.OK)
	last := long[2097193] ^ 3
	wantE(t, "Clip", m.Clip(1, 2, 0, -1), api.OK)
	wantLeft(t, "the longest", m, 1, 2, long[1:2097193], "3"+long[1:2097193]+string(last), "", long)

	// How many bytes are under way together is bounded by nothing but the two limits.
	for range 20 {
		send(t, m, 1, 2, long)
	}
	wantE(t, "too long", m.Send(1, 2, make([]byte, 2097195)), api.ErrBytes)
	for range 20 {
		if b, err := m.Take(1, 2); err != nil || string(b) != long {
			t.Fatalf("%d bytes, %v", len(b), err)
		}
	}
}
