package mesh_test

import (
	"errors"
	"fmt"
	"testing"

	"pleach/api"
	"pleach/mesh"
)

// The chapter's example 1.
func TestExampleSent(t *testing.T) {
	m := made(t, 2)
	send(t, m, 1, 2, "\x0a", "\x0b\x0c")
	if m.Len(1, 2) != 2 || m.Len(2, 1) != 0 {
		t.Errorf("Len: %d, %d", m.Len(1, 2), m.Len(2, 1))
	}
	if b, err := m.Take(1, 2); string(b) != "\x0a" || err != nil {
		t.Errorf("Take(1, 2): %x, %v", b, err)
	}
	wantIdle(t, "the other way", m, 2, 1)
	if b, err := m.Take(1, 1); b != nil || err != api.ErrArg {
		t.Errorf("Take(1, 1): %x, %v", b, err)
	}
	wantLeft(t, "then", m, 1, 2, "\x0b\x0c")
}

// The chapter's examples 2 and 3.
func TestExampleSpoilt(t *testing.T) {
	m := with(t, "\x0b\x0c")
	wantE(t, "Flip", m.Flip(1, 2, 0, 3, 0x80), api.OK)
	m.Twice(1, 2, 0)
	if b, err := m.Take(1, 2); string(b) != "\x0b\x8c" || err != nil {
		t.Errorf("behind Flip: %x, %v", b, err)
	}
	wantE(t, "Clip", m.Clip(1, 2, 0, -1), api.OK)
	wantE(t, "Flip by 0", m.Flip(1, 2, 0, 0, 0), api.ErrArg)
	wantE(t, "Drop", m.Drop(1, 2, 1), api.ErrRange)

	wantE(t, "Twice", m.Twice(1, 2, 0), api.OK)
	wantE(t, "Send", m.Send(1, 2, nil), api.OK)
	wantE(t, "Swap", m.Swap(1, 2, 0, 2), api.OK)
	wantE(t, "Clip of no bytes", m.Clip(1, 2, 0, 5), api.OK)
	wantE(t, "Flip of no bytes", m.Flip(1, 2, 0, 0, 1), api.ErrArg)
	wantLeft(t, "then", m, 1, 2, "", "\x0b", "\x0b")
}

// The chapter's example 4; P21.1: meshes of 1 to MaxReplicas replicas may be, and no others.
func TestNew(t *testing.T) {
	for _, n := range []int{0, 9, 10, -1, -8, 64, 256, 257, 1 << 32, 1<<32 + 1, least, least + 1, most} {
		if m, e := mesh.New(n); m != nil || e != api.ErrArg {
			t.Errorf("New(%d): %v, %d", n, m, e)
		}
	}
	for n := 1; n <= 8; n++ {
		m := made(t, n)
		for _, p := range pairs(n) {
			wantIdle(t, fmt.Sprint("a new one of ", n), m, p[0], p[1])
		}
		if m.Len(0, 9) != 0 {
			t.Errorf("Len(0, 9): %d", m.Len(0, 9))
		}
	}
}

// P21.1: what is asked of a link that is none is answered ErrArg, ahead of all else, and does nothing.
func TestNoLink(t *testing.T) {
	for n := 1; n <= 8; n++ {
		m := made(t, n)
		for _, p := range pairs(n) {
			send(t, m, p[0], p[1], fmt.Sprint(p), "ab")
		}
		for _, p := range strangers(n) {
			from, to := p[0], p[1]
			for _, i := range []int{0, 1, -1, 2, least, most} {
				what := fmt.Sprintf("of %d replicas, from %d to %d, %d", n, from, to, i)
				wantE(t, "Send "+what, m.Send(from, to, nil), api.ErrArg)
				wantE(t, "Send "+what, m.Send(from, to, []byte("x")), api.ErrArg)
				wantE(t, "Drop "+what, m.Drop(from, to, i), api.ErrArg)
				wantE(t, "Twice "+what, m.Twice(from, to, i), api.ErrArg)
				wantE(t, "Swap "+what, m.Swap(from, to, i, 0), api.ErrArg)
				wantE(t, "Swap "+what, m.Swap(from, to, 0, i), api.ErrArg)
				wantE(t, "Flip "+what, m.Flip(from, to, i, 0, 1), api.ErrArg)
				wantE(t, "Flip by 0 "+what, m.Flip(from, to, i, 0, 0), api.ErrArg)
				wantE(t, "Clip "+what, m.Clip(from, to, i, 0), api.ErrArg)
				wantE(t, "Clear "+what, m.Clear(from, to), api.ErrArg)
				if b, err := m.Take(from, to); b != nil || err != api.ErrArg {
					t.Errorf("Take %s: %q, %v", what, b, err)
				}
				if m.Len(from, to) != 0 {
					t.Errorf("Len %s: %d", what, m.Len(from, to))
				}
			}
		}
		wantE(t, "too long, on no link", m.Send(1, 1, make([]byte, api.MaxMessage+43)), api.ErrArg)
		for _, p := range pairs(n) {
			wantLeft(t, "behind what was refused", m, p[0], p[1], fmt.Sprint(p), "ab")
		}
	}
}

// P21.1: links have nothing to do with one another: whatever is done on one, all others are as they were.
func TestLinksApart(t *testing.T) {
	for n := 2; n <= 8; n++ {
		for _, p := range pairs(n) {
			m := made(t, n)
			for _, q := range pairs(n) {
				send(t, m, q[0], q[1], fmt.Sprint("a", q), fmt.Sprint("b", q), "c")
			}
			from, to := p[0], p[1]
			send(t, m, from, to, "more")
			wantE(t, "Flip", m.Flip(from, to, 2, 0, 1), api.OK)
			wantE(t, "Swap", m.Swap(from, to, 0, 2), api.OK)
			wantE(t, "Clip", m.Clip(from, to, 3, 2), api.OK)
			wantE(t, "Drop", m.Drop(from, to, 1), api.OK)
			wantE(t, "Twice", m.Twice(from, to, 0), api.OK)
			wantLeft(t, "the link", m, from, to, "b", fmt.Sprint("a", p), "mo", "b")
			send(t, m, from, to, "x", "y")
			wantE(t, "Clear", m.Clear(from, to), api.OK)
			for _, q := range pairs(n) {
				if q == p {
					wantIdle(t, "the link", m, from, to)
				} else {
					wantLeft(t, fmt.Sprint("another one than ", p), m, q[0], q[1], fmt.Sprint("a", q), fmt.Sprint("b", q), "c")
				}
			}
		}
	}
}

// P21.1: meshes have nothing to do with one another.
func TestMeshesApart(t *testing.T) {
	a, b := with(t, "a"), with(t, "b", "c")
	wantE(t, "Clear", a.Clear(1, 2), api.OK)
	wantLeft(t, "the other one", b, 1, 2, "b", "c")
	wantIdle(t, "the one", a, 1, 2)
}

// P21.1: numbers of messages that are none are answered ErrRange, and do nothing.
func TestNoMessage(t *testing.T) {
	for n := range 4 {
		l := []string{"ab", "", "c"}[:n]
		m := with(t, l...)
		send(t, m, 2, 1, "another", "link", "has", "more")
		for _, i := range []int{-1, n, n + 1, -n - 1, 1023, 1024, 1 << 32, -1 << 32, least, most} {
			what := fmt.Sprintf("of %d messages, number %d", n, i)
			wantE(t, "Drop "+what, m.Drop(1, 2, i), api.ErrRange)
			wantE(t, "Twice "+what, m.Twice(1, 2, i), api.ErrRange)
			wantE(t, "Flip "+what, m.Flip(1, 2, i, 0, 1), api.ErrRange)
			wantE(t, "Flip by 0 "+what, m.Flip(1, 2, i, 0, 0), api.ErrRange)
			wantE(t, "Clip "+what, m.Clip(1, 2, i, 0), api.ErrRange)
			wantE(t, "Swap with itself "+what, m.Swap(1, 2, i, i), api.ErrRange)
			for j := range n {
				wantE(t, "Swap "+what, m.Swap(1, 2, i, j), api.ErrRange)
				wantE(t, "Swap "+what, m.Swap(1, 2, j, i), api.ErrRange)
			}
		}
		wantLeft(t, "behind what was refused", m, 1, 2, l...)
	}
}

// P21.1: ErrIdle is told, that very error, of a link on which nothing was sent, all was taken, dropped or cleared; it is none of the numbers.
func TestIdle(t *testing.T) {
	m := made(t, 3)
	wantIdle(t, "a new one", m, 3, 2)
	send(t, m, 3, 2, "a")
	wantLeft(t, "taken", m, 3, 2, "a")
	send(t, m, 3, 2, "a", "b")
	m.Drop(3, 2, 0)
	m.Drop(3, 2, 0)
	wantIdle(t, "dropped", m, 3, 2)
	wantE(t, "Clear of none", m.Clear(3, 2), api.OK)
	wantIdle(t, "cleared", m, 3, 2)
	send(t, m, 3, 2, "a", "b")
	wantE(t, "Clear", m.Clear(3, 2), api.OK)
	wantIdle(t, "cleared", m, 3, 2)
	send(t, m, 3, 2, "c", "d")
	wantLeft(t, "sent behind that", m, 3, 2, "c", "d")

	if _, err := m.Take(3, 2); err.Error() != "pleach: nothing is under way" {
		t.Errorf("its text is %q", err.Error())
	}
	var number api.Errno
	if _, err := m.Take(3, 2); errors.As(err, &number) {
		t.Errorf("ErrIdle is number %d", number)
	}
	if b, err := with(t, "").Take(1, 2); len(b) != 0 || err != nil {
		t.Errorf("a message of no bytes: %q, %v", b, err)
	}
}

// P21.2: where nothing else was done, messages are taken just as they were sent, in their order, each once, however sends and takes follow one another.
func TestAsSent(t *testing.T) {
	for batch := 1; batch <= 7; batch++ {
		m := made(t, 4)
		sent, took := map[[2]int]int{}, map[[2]int]int{}
		for round := range 60 {
			for _, p := range pairs(4) {
				for range (batch + round + p[0]) % 5 {
					send(t, m, p[0], p[1], fmt.Sprint("message ", sent[p], p))
					sent[p]++
				}
				for range min((batch*round+p[1])%4, sent[p]-took[p]) {
					b, err := m.Take(p[0], p[1])
					if want := fmt.Sprint("message ", took[p], p); err != nil || string(b) != want {
						t.Fatalf("%q, %v; want %q", b, err, want)
					}
					took[p]++
				}
				if m.Len(p[0], p[1]) != sent[p]-took[p] {
					t.Fatalf("%d sent, %d taken, Len: %d", sent[p], took[p], m.Len(p[0], p[1]))
				}
			}
		}
		for _, p := range pairs(4) {
			rest := []string{}
			for i := took[p]; i < sent[p]; i++ {
				rest = append(rest, fmt.Sprint("message ", i, p))
			}
			wantLeft(t, "the rest", m, p[0], p[1], rest...)
		}
	}
}

// P21.2: messages are told by nothing but their place: like ones are as many as were sent, and every byte comes as it went.
func TestLikeMessages(t *testing.T) {
	every := []byte{}
	for x := range 256 {
		every = append(every, byte(x))
	}
	l := []string{"a", "a", "", "", "a", string(every), "\x00", "\x00\x00", string(every), "\xff\xfe", ""}
	m := with(t, l...)
	wantLeft(t, "like ones", m, 1, 2, l...)
	wantE(t, "nil", m.Send(2, 1, nil), api.OK)
	wantE(t, "of no bytes", m.Send(2, 1, []byte{}), api.OK)
	wantLeft(t, "of no bytes", m, 2, 1, "", "")
}

// P21.1: Drop loses that one alone, wherever it stands; those behind it move up.
func TestDrop(t *testing.T) {
	l := []string{"a", "b", "c", "d"}
	for i := range l {
		m := with(t, l...)
		wantE(t, "Drop", m.Drop(1, 2, i), api.OK)
		rest := append(append([]string{}, l[:i]...), l[i+1:]...)
		send(t, m, 1, 2, "e")
		wantLeft(t, fmt.Sprint("Drop of ", i), m, 1, 2, append(rest, "e")...)
	}
	m := with(t, "a", "b", "c", "d")
	m.Drop(1, 2, 1)
	m.Drop(1, 2, 1)
	wantLeft(t, "Drop of two", m, 1, 2, "a", "d")
}

// P21.1: Twice lays another one behind all others; what befalls one of both befalls the other one not.
func TestTwice(t *testing.T) {
	l := []string{"ab", "", "cd"}
	for i, text := range l {
		m := with(t, l...)
		wantE(t, "Twice", m.Twice(1, 2, i), api.OK)
		send(t, m, 1, 2, "e")
		wantLeft(t, fmt.Sprint("Twice of ", i), m, 1, 2, append(append([]string{}, l...), text, "e")...)
	}
	for i := range 3 {
		m := with(t, "ab", "ab")
		wantE(t, "Twice", m.Twice(1, 2, 0), api.OK)
		want := []string{"ab", "ab", "ab"}
		m.Flip(1, 2, i, 1, 1)
		want[i] = "ac"
		m.Clip(1, 2, (i+1)%3, 1)
		want[(i+1)%3] = "a"
		m.Flip(1, 2, (i+1)%3, 0, 0x20)
		want[(i+1)%3] = "A"
		wantLeft(t, fmt.Sprint("spoilt: ", i), m, 1, 2, want...)
	}
	m := with(t, "a")
	for range 3 {
		m.Twice(1, 2, m.Len(1, 2)-1)
		m.Twice(1, 2, 0)
	}
	wantLeft(t, "again and again", m, 1, 2, "a", "a", "a", "a", "a", "a", "a")
}

// P21.1: Swap lets just these two change places, in either order; of one with itself it does nothing.
func TestSwap(t *testing.T) {
	l := []string{"a", "", "ccc", "dd"}
	for i := range l {
		for j := range l {
			m := with(t, l...)
			wantE(t, "Swap", m.Swap(1, 2, i, j), api.OK)
			want := append([]string{}, l...)
			want[i], want[j] = l[j], l[i]
			wantLeft(t, fmt.Sprintf("Swap of %d and %d", i, j), m, 1, 2, want...)
		}
	}
}
