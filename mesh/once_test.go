package mesh_test

import (
	"fmt"
	"slices"
	"strings"
	"sync"
	"sync/atomic"
	"testing"

	"pleach/api"
	"pleach/mesh"
)

// atOnce runs work so many times at one time, and waits for all of them.
func atOnce(n int, work func(i int)) {
	var all sync.WaitGroup
	begin := make(chan struct{})
	for i := range n {
		all.Add(1)
		go func() {
			defer all.Done()
			<-begin
			work(i)
		}()
	}
	close(begin)
	all.Wait()
}

// rest takes all that is under way on a link.
func rest(m *mesh.Mesh, from, to int) []string {
	out := []string{}
	for {
		b, err := m.Take(from, to)
		if err != nil {
			return out
		}
		out = append(out, string(b))
	}
}

// P21.1: of sends to one link, from several goroutines, just as many are taken as there is room for, and each sender's stand in their order.
func TestSendAtOnce(t *testing.T) {
	m := made(t, 2)
	var many, taken atomic.Int64
	atOnce(8, func(i int) {
		for k := range 200 {
			switch m.Send(1, 2, fmt.Appendf(nil, "%d %03d", i, k)) {
			case api.OK:
				taken.Add(1)
			case api.ErrMany:
				many.Add(1)
			}
		}
	})
	if taken.Load() != 1024 || many.Load() != 1600-1024 || m.Len(1, 2) != 1024 {
		t.Errorf("%d were taken, %d refused, %d are under way", taken.Load(), many.Load(), m.Len(1, 2))
	}
	wantRising(t, rest(m, 1, 2))
}

// wantRising fails, if what each sender sent doesn't stand in its order, each once.
func wantRising(t *testing.T, l []string) {
	t.Helper()
	last := map[string]string{}
	for _, text := range l {
		who, mark, _ := strings.Cut(text, " ")
		if last[who] >= mark && last[who] != "" {
			t.Fatalf("%s of %s stands behind %s", mark, who, last[who])
		}
		last[who] = mark
	}
}

// P21.1, P21.2: what some send and others take at one time is taken once, all of it.
func TestTakeAtOnce(t *testing.T) {
	m := made(t, 3)
	const senders, each = 4, 500
	took := make([][]string, senders)
	var left atomic.Int64
	left.Store(senders * each)
	atOnce(2*senders, func(i int) {
		if i < senders {
			for k := range each {
				for m.Send(2, 3, fmt.Appendf(nil, "%d %03d", i, k)) == api.ErrMany {
				}
			}
			return
		}
		for left.Load() > 0 {
			b, err := m.Take(2, 3)
			if err == nil {
				took[i-senders] = append(took[i-senders], string(b))
				left.Add(-1)
			}
		}
	})
	all := slices.Concat(took...)
	slices.Sort(all)
	for i, text := range all {
		if want := fmt.Sprintf("%d %03d", i/each, i%each); text != want {
			t.Fatalf("message %d is %q; want %q", i, text, want)
		}
	}
	for _, l := range took {
		wantRising(t, l)
	}
	wantIdle(t, "then", m, 2, 3)
}

// P21.1: flips of one byte at one time are each done whole: none is lost.
func TestFlipAtOnce(t *testing.T) {
	m := with(t, "a", "\x00\x00\x00", "b")
	atOnce(8, func(i int) {
		for range 20001 {
			m.Flip(1, 2, 1, -2, 1<<i)
		}
	})
	wantLeft(t, "flips", m, 1, 2, "a", "\x00\xff\x00", "b")
}

// P21.1: swaps at one time are each done whole: no message is lost, none is there twice.
func TestSwapAtOnce(t *testing.T) {
	l := marks(3)
	m := with(t, l...)
	atOnce(8, func(i int) {
		for k := range 50000 {
			m.Swap(1, 2, (i+k)%3, (i+k+1)%3)
		}
	})
	got := rest(m, 1, 2)
	slices.Sort(got)
	if !slices.Equal(got, l) {
		t.Errorf("%q; want %q", got, l)
	}
}

// P21.1: drops at one time are each done whole: just as many messages are left as there should be, each once, in their order.
func TestDropAtOnce(t *testing.T) {
	for range 20 {
		m := made(t, 2)
		for i := range 1024 {
			send(t, m, 1, 2, fmt.Sprintf("mark %04d", i))
		}
		atOnce(8, func(i int) {
			for range 120 {
				wantE(t, "Drop", m.Drop(1, 2, i), api.OK)
			}
		})
		l := rest(m, 1, 2)
		if len(l) != 64 {
			t.Fatalf("%d are left; want 64", len(l))
		}
		wantRising(t, l)
	}
}

// P21.1: clips of one message at one time are each done whole, and so are flips beside them.
func TestClipAtOnce(t *testing.T) {
	m := with(t, strings.Repeat("\x00", 8*1001+1))
	atOnce(9, func(i int) {
		for range 1001 {
			if i < 8 {
				m.Clip(1, 2, 0, -1)
			} else {
				m.Flip(1, 2, 0, 0, 1)
			}
		}
	})
	wantLeft(t, "clips", m, 1, 2, "\x01")
}

// P21.1: a clip loses no flip of what it leaves.
func TestFlipBesideClip(t *testing.T) {
	m := with(t, strings.Repeat("\x00", 9000))
	atOnce(2, func(i int) {
		for k := range 8001 {
			if i == 0 {
				m.Clip(1, 2, 0, -1)
			} else {
				m.Flip(1, 2, 0, k%3, 1)
			}
		}
	})
	wantLeft(t, "beside clips", m, 1, 2, "\x01\x01\x01"+strings.Repeat("\x00", 996))
}

// P21.1: doublings beside flips and swaps are each done whole: they are just as many, each of a message that was there.
func TestTwiceAtOnce(t *testing.T) {
	m := with(t, "\x00", "b", "c")
	atOnce(8, func(i int) {
		for range 101 {
			m.Flip(1, 2, 0, 0, 1<<i)
			m.Swap(1, 2, 1, 2)
			m.Twice(1, 2, 1)
		}
	})
	l := rest(m, 1, 2)
	if len(l) != 3+8*101 || !slices.Equal(l[:3], []string{"\xff", "b", "c"}) || len(strings.Trim(strings.Join(l[3:], ""), "bc")) != 0 {
		t.Errorf("%d messages, %q", len(l), l)
	}
}

// P21.1: links that are cleared, counted, sent to and taken from at one time have nothing to do with one another then either.
func TestLinksAtOnce(t *testing.T) {
	m := made(t, 8)
	all := pairs(8)
	atOnce(8, func(i int) {
		from, to := all[i*7][0], all[i*7][1]
		for k := range 10000 {
			m.Send(from, to, []byte{byte(i)})
			m.Send(from, to, []byte{byte(k)})
			n := m.Len(from, to)
			b, err := m.Take(from, to)
			m.Clear(from, to)
			if n != 2 || err != nil || len(b) != 1 || b[0] != byte(i) || m.Len(from, to) != 0 {
				t.Errorf("from %d to %d: Len %d, then %q, %v, then Len %d", from, to, n, b, err, m.Len(from, to))
				return
			}
		}
	})
}

// P21.1: whatever is called at one time, on one link and on others, answers what may be, and what is counted comes out even.
func TestAllAtOnce(t *testing.T) {
	m := made(t, 4)
	var more atomic.Int64 // how many came, but for those that went
	count := func(e api.Errno, by int64) {
		if e == api.OK {
			more.Add(by)
		}
	}
	atOnce(8, func(i int) {
		for k := range 600 {
			to := 2 + (i+k)%2
			count(m.Send(1, to, []byte("abcd")), 1)
			count(m.Twice(1, to, k%5), 1)
			m.Swap(1, to, k%3, i%3)
			m.Flip(1, to, 0, k, byte(1+k%255))
			m.Clip(1, to, i%4, 3)
			count(m.Drop(1, to, i), -1)
			if b, err := m.Take(1, to); err == nil {
				more.Add(-1)
				if len(b) > 4 {
					t.Errorf("a message of %d bytes", len(b))
				}
			}
			m.Send(4, 1, []byte{byte(i)})
			m.Clear(4, 1)
			if n := m.Len(1, to); n < 0 || n > 1024 {
				t.Errorf("Len: %d", n)
			}
		}
	})
	if n := m.Len(1, 2) + m.Len(1, 3); int64(n) != more.Load() {
		t.Errorf("%d are under way; want %d", n, more.Load())
	}
	wantIdle(t, "cleared", m, 4, 1)
	wantIdle(t, "another one", m, 1, 4)
}

// P21.1: meshes made at one time have nothing to do with one another.
func TestNewAtOnce(t *testing.T) {
	atOnce(8, func(i int) {
		m, _ := mesh.New(2)
		m.Send(1, 2, []byte{byte(i)})
		if l := rest(m, 1, 2); len(l) != 1 || l[0] != string([]byte{byte(i)}) {
			t.Errorf("%q", l)
		}
	})
}
