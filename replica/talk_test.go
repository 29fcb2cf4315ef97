package replica_test

import (
	"bytes"
	"fmt"
	"math"
	"slices"
	"strings"
	"testing"

	"pleach/api"
	"pleach/bloom"
	"pleach/disk"
	"pleach/replica"
)

// wantNoTick fails, if Tick to one isn't refused with this error.
func wantNoTick(t *testing.T, x teller, to int, want api.Errno) {
	t.Helper()
	if b, e := x.Tick(to); len(b) != 0 || e != want {
		t.Errorf("Tick(%d): %x, %d; want %d", to, b, e, want)
	}
}

// P22.1: Tick to whoever there may be: a hello from this one to that one, under the key; its salt counts the ticks that were answered OK, whoever they were to.
func TestTick(t *testing.T) {
	a := made("a")
	l := []string{a, made("b", a), made("x")}
	for author := 1; author <= 8; author++ {
		d, h := onDisk(l...)
		r := open(t, d, author)
		deliver(t, r, letter(author%8+1, author, api.Message{Kind: api.MsgBlocks, Blocks: [][]byte{[]byte(made("w", made("nobody's"), a))}}))
		salt := uint64(0)
		wantStill(t, "Tick", r, h, func() {
			for _, to := range []int{author, 1, 2, 0, 9, 3, 4, -1, 5, 6, 7, 8, math.MinInt, 1, math.MaxInt, 1<<32 + author%8 + 1, 256 + author%8 + 1, author} {
				if to < 1 || to > 8 || to == author {
					wantNoTick(t, r, to, api.ErrArg)
					continue
				}
				salt++
				from, who, m := read(t, must2(t, func() ([]byte, api.Errno) { return r.Tick(to) }))
				want := api.Message{Kind: api.MsgHello, Heads: headsOf(l...), Salt: salt, Bloom: bloom.Of(salt, hashesOf(l)), Want: hashesOf([]string{made("nobody's")})}
				if from != author || who != to || tell(m) != tell(want) {
					t.Errorf("Tick(%d) of %d: from %d to %d, %v; want %v", to, author, from, who, m, want)
				}
			}
		})
	}
}

// P22.1: the salt counts nothing else: neither other calls, nor ticks that were refused, nor those of another replica.
func TestSalt(t *testing.T) {
	r, h := with(t, made("a"))
	other, _ := with(t)
	hello := letter(8, 1, helloMsg(nil, nil))
	for i := range 5 {
		deliver(t, r, hello)
		wantNoTick(t, r, 1, api.ErrArg)
		commit(t, r)
		other.Tick(2)
		if _, _, m := read(t, must2(t, func() ([]byte, api.Errno) { return r.Tick(2 + i) })); m.Salt != uint64(i+1) {
			t.Errorf("salt %d; want %d", m.Salt, i+1)
		}
	}
	h.Fuse(0)
	begin(t, r)
	r.Commit()
	wantNoTick(t, r, 2, api.ErrPower)
	wantNoTick(t, r, 1, api.ErrPower)
	wantNoTick(t, r, 9, api.ErrPower)
}

// wantNoDeliver fails, if Deliver isn't refused with this error, or changes anything.
func wantNoDeliver(t *testing.T, what string, x teller, h *disk.Hand, b []byte, want api.Errno) {
	t.Helper()
	wantStill(t, what, x, h, func() {
		t.Helper()
		if out, taken, e := x.Deliver(b); len(out) != 0 || tell(taken) != tell(api.Taken{}) || e != want {
			t.Errorf("%s: %d messages, %v, %d; want %d", what, len(out), taken, e, want)
		}
	})
}

// P22.1, P22.5: what is no sealed message is refused with the number of seal.Open's error.
func TestDeliverUnsealed(t *testing.T) {
	r, h := with(t, made("a"))
	good := blocksTo(1, made("b"))
	turned := func(at int, by byte) []byte {
		b := bytes.Clone(good)
		b[at] ^= by
		return b
	}
	wantNoDeliver(t, "no bytes", r, h, nil, api.ErrShort)
	wantNoDeliver(t, "another mark", r, h, turned(3, 1), api.ErrForm)
	wantNoDeliver(t, "From 9", r, h, turned(4, 1), api.ErrArg)
	wantNoDeliver(t, "From 0", r, h, turned(4, 8), api.ErrArg)
	wantNoDeliver(t, "From another one", r, h, turned(4, 8^3), api.ErrSeal)
	wantNoDeliver(t, "To 0", r, h, turned(5, 1), api.ErrArg)
	wantNoDeliver(t, "To another one", r, h, turned(5, 2), api.ErrSeal)
	wantNoDeliver(t, "a number above MaxMessage", r, h, turned(9, 1), api.ErrOver)
	wantNoDeliver(t, "a number that is too great", r, h, turned(6, 128), api.ErrShort)
	wantNoDeliver(t, "a byte behind", r, h, append(bytes.Clone(good), 0), api.ErrRest)
	wantNoDeliver(t, "the last byte turned", r, h, turned(len(good)-1, 1), api.ErrSeal)
	for n := range good {
		wantNoDeliver(t, fmt.Sprint("bytes ", n), r, h, good[:n], api.ErrShort)
	}
	for at := range good {
		if out, _, e := r.Deliver(turned(at, 64)); e == api.OK || len(out) != 0 {
			t.Errorf("byte %d turned: %d", at, e)
		}
	}
	wantHeld(t, "unsealed", r, made("a"))
	other := key7()
	other[0] = 8
	wantNoDeliver(t, "under another key", r, h, sealed(other, 8, 1, good[10:len(good)-32]), api.ErrSeal)
	_, taken := deliver(t, r, good)
	wantTaken(t, "as it was", taken, []string{made("b")})
}

// P22.1, P22.5: what is meant for another one, or of its own, is refused, ahead of what it says.
func TestDeliverToOthers(t *testing.T) {
	for _, author := range []int{1, 2, 8} {
		d, h := onDisk(made("a"))
		r := open(t, d, author)
		for _, body := range [][]byte{nil, {9}, blocksTo(1, made("b"))[10 : len(blocksTo(1, made("b")))-32]} {
			for from := 1; from <= 8; from++ {
				for to := 1; to <= 8; to++ {
					if to == author && from != author {
						continue
					}
					b := sealed(key7(), from, to, body)
					wantNoDeliver(t, fmt.Sprintf("from %d to %d, of %d", from, to, author), r, h, b, api.ErrArg)
					b[len(b)-1] ^= 1
					if from == 1 {
						wantNoDeliver(t, "and spoilt", r, h, b, api.ErrSeal)
					}
				}
			}
		}
	}
}

// P22.1, P22.5: what stands under the seal is read as a message: the number of msg.Decode's error.
func TestDeliverNoMessage(t *testing.T) {
	r, h := with(t, made("a"))
	zero := strings.Repeat("\x00", 32)
	h1 := zero[:31] + "\x01"
	for _, x := range []struct {
		body string
		want api.Errno
	}{
		{"", api.ErrShort},
		{"\x00", api.ErrKind},
		{"\x04", api.ErrKind},
		{"\x03\x00", api.ErrArg},
		{"\x03\x81\x02", api.ErrOver},
		{"\x03\x01\x00", api.ErrBytes},
		{"\x02\x02" + h1 + zero, api.ErrOrder},
		{"\x02\x00\x00", api.ErrRest},
		{"\x02\x80\x00", api.ErrLong},
		{"\x01\x00" + zero[:8] + "\x01\x00\x00", api.ErrShape},
		{"\x02\x01" + zero[:31], api.ErrShort},
		{strings.Repeat("\x03", api.MaxMessage), api.ErrRest},
	} {
		wantNoDeliver(t, fmt.Sprintf("%.20x", x.body), r, h, sealed(key7(), 8, 1, []byte(x.body)), x.want)
	}
}

// wantSaid fails, if to a message of replica 5 others than these are said; nothing changes.
func wantSaid(t *testing.T, what string, x teller, h *disk.Hand, m api.Message, want ...api.Message) {
	t.Helper()
	wantStill(t, what, x, h, func() {
		t.Helper()
		out, taken := deliver(t, x, letter(5, 1, m))
		wantTaken(t, what, taken, nil)
		if len(out) != len(want) {
			t.Fatalf("%s: %d messages; want %d", what, len(out), len(want))
		}
		for i, b := range out {
			if from, to, m := read(t, b); from != 1 || to != 5 || tell(m) != tell(want[i]) {
				t.Errorf("%s: message %d from %d to %d: %v; want %v", what, i, from, to, m, want[i])
			}
		}
	})
}

// blocksMsg tells a message of blocks.
func blocksMsg(l ...string) api.Message {
	m := api.Message{Kind: api.MsgBlocks}
	for _, b := range l {
		m.Blocks = append(m.Blocks, []byte(b))
	}
	return m
}

// wantMsg tells a want.
func wantMsg(l ...string) api.Message {
	return api.Message{Kind: api.MsgWant, Want: rising(hashesOf(l))}
}

// helloMsg tells a hello with a digest of these blocks, which are held, and these heads.
func helloMsg(held, heads []string, want ...string) api.Message {
	return api.Message{Kind: api.MsgHello, Heads: rising(hashesOf(heads)), Salt: 3, Bloom: bloom.Of(3, hashesOf(held)), Want: rising(hashesOf(want))}
}

// P22.1: what is said to hellos and wants goes, in its order, under the seal to the one that asked; nothing is taken, no act is done.
func TestDeliverAsked(t *testing.T) {
	a := made("a")
	b := made("b", a)
	c, x, w := made("c", b), made("x"), made("w", made("nobody's"))
	r, h := with(t, a, b, c, x)
	deliver(t, r, blocksTo(1, w))
	wantSaid(t, "a want", r, h, wantMsg(c, a, w, made("nobody's")), blocksMsg(a, c))
	wantSaid(t, "a want of nothing", r, h, wantMsg())
	wantSaid(t, "a want of what isn't there", r, h, wantMsg(w))
	wantSaid(t, "a hello of nothing", r, h, helloMsg(nil, nil), blocksMsg(sorted(a, b, c, x)...))
	wantSaid(t, "a hello of the same", r, h, helloMsg([]string{a, b, c, x}, []string{c, x}))
	wantSaid(t, "a hello of the same that misses one", r, h, helloMsg([]string{a, b, c, x}, []string{c, x}, b), blocksMsg(b))
	wantSaid(t, "a hello of more", r, h, helloMsg([]string{a, b, c, x}, []string{c, x, made("y"), w}), wantMsg(made("y")))
	wantSaid(t, "a hello of other things", r, h, helloMsg([]string{made("y"), made("z")}, []string{made("y"), made("z")}), blocksMsg(sorted(a, b, c, x)...), wantMsg(made("y"), made("z")))
}

// P22.1: what is said goes in as many messages as it takes: none is held back.
func TestDeliverMany(t *testing.T) {
	l := wide(600)
	r, h := with(t, l...)
	l = sorted(l...)
	wantSaid(t, "600 blocks", r, h, helloMsg(nil, []string{made("y")}), blocksMsg(l[:256]...), blocksMsg(l[256:512]...), blocksMsg(l[512:]...), wantMsg(made("y")))
	big := []string{}
	for i := range 3 {
		big = append(big, child(8, ofSize(api.MaxNode-1000*i)))
	}
	r, h = with(t, big...)
	big = sorted(big...)
	out, _ := deliver(t, r, letter(5, 1, helloMsg(nil, nil)))
	got := []string{}
	for _, b := range out {
		_, _, m := read(t, b)
		for _, row := range m.Blocks {
			got = append(got, string(row))
		}
	}
	if !slices.Equal(got, big) || len(out) < 2 || h.Acts() != 1 {
		t.Errorf("%d blocks in %d messages", len(got), len(out))
	}
}

// P22.1: blocks are taken in their order, an Append each; then, if any was taken, one Sync. What only waits, what is known, what is refused does no act.
func TestDeliverBlocks(t *testing.T) {
	a := made("a")
	b := made("b", a)
	c, x, w := made("c", b), made("x"), made("w", made("nobody's"))
	bad := misfit(1, made("bad", a))
	for _, l := range []struct {
		what        string
		came, taken []string
		lost, waits []string
	}{
		{"one", []string{x}, []string{x}, nil, nil},
		{"two", []string{x, b}, []string{x, b}, nil, nil},
		{"backwards", []string{c, x, b}, []string{x, b, c}, nil, nil},
		{"twice", []string{b, b, c, b, c}, []string{b, c}, nil, nil},
		{"known", []string{a, a}, nil, nil, nil},
		{"waiting", []string{c, w}, nil, nil, []string{c, w}},
		{"waiting, twice", []string{w, c, w}, nil, nil, []string{w, c}},
		{"refused", []string{bad, "\x00", "\x09\x09"}, nil, nil, nil},
		{"refused between", []string{"\x00", x, bad, w, b, "\x01"}, []string{x, b}, nil, []string{w}},
		{"lost", []string{misfit(1, made("bad", x)), c, x, b}, []string{x, b, c}, []string{misfit(1, made("bad", x))}, nil},
	} {
		acts := []act{}
		for _, b := range l.taken {
			acts = append(acts, appends(0, b))
		}
		if len(l.taken) > 0 {
			acts = append(acts, syncs(0))
		}
		wantDone(t, l.what, 1<<20, []string{a}, func(r *replica.Replica) api.Errno { _, _, e := r.Deliver(blocksTo(1, l.came...)); return e }, acts...)
		r, _ := with(t, a)
		out, taken := deliver(t, r, blocksTo(1, l.came...))
		wantTaken(t, l.what, taken, l.taken, l.lost...)
		wantHeld(t, l.what, r, append([]string{a}, l.taken...)...)
		wantWaiting(t, l.what, r, l.waits...)
		if len(out) != 0 {
			t.Errorf("%s: %d messages", l.what, len(out))
		}
	}
}

// P22.1: blocks over several segments: each segment is synced when the next one is begun.
func TestDeliverSegments(t *testing.T) {
	a := made(strings.Repeat("a", 40000))
	b, c := made(strings.Repeat("b", 40000), a), made("c", a)
	x := made(strings.Repeat("x", 60000))
	wantDone(t, "in segments", 1<<20, []string{a}, func(r *replica.Replica) api.Errno {
		_, _, e := r.Deliver(blocksTo(1, c, b, x))
		return e
	}, appends(0, c), syncs(0), appends(1, b), syncs(1), appends(2, x), syncs(2))
}

// P22.1, P22.5: blocks for which there is no room are passed over; they may come again.
func TestDeliverRoom(t *testing.T) {
	a := made("a")
	big, b := made(strings.Repeat("big", 20), a), made("b", a)
	y := made("y", big)
	d, h := disk.Lay(len(framesOf(a, b)), append(journalOf(a), api.File{Name: "other", Bytes: nil}))
	r := open(t, d)
	_, taken := deliver(t, r, blocksTo(1, y, big, b, made("more")))
	wantTaken(t, "no room", taken, []string{b})
	wantHeld(t, "no room", r, a, b)
	wantWaiting(t, "no room", r, y)
	if !sameFiles(h.Files(), append(journalOf(a, b), api.File{Name: "other"})) || h.Acts() != 3 {
		t.Errorf("%d acts, %s", h.Acts(), showFiles(h.Files()))
	}
	acts := h.Acts()
	_, taken = deliver(t, r, blocksTo(1, y, big, b, made("more")))
	wantTaken(t, "again", taken, nil)
	if h.Acts() != acts {
		t.Errorf("again: %d acts", h.Acts()-acts)
	}
}

// P22.7: the same message once more, right behind, takes nothing new and does no act, whatever it was; what is said to it is the same.
func TestDeliverTwice(t *testing.T) {
	r := chance()
	taken, waited, said := 0, 0, 0
	for range 300 {
		pool := []string{}
		for i := range 3 + r.IntN(20) {
			parents := []string{}
			for range r.IntN(3) {
				if i > 0 {
					parents = append(parents, one(r, pool...))
				}
			}
			slices.Sort(parents)
			pool = append(pool, made(fmt.Sprint(i, r.Uint32()), slices.Compact(parents)...))
			if len(parents) > 0 && r.IntN(8) == 0 {
				pool[i] = misfit(1, pool[i])
			}
		}
		x, h := with(t)
		deliver(t, x, blocksTo(1, mixed(r, pool)[:1+r.IntN(len(pool))]...))
		some := mixed(r, pool)[:r.IntN(len(pool))]
		b := one(r, blocksTo(1, mixed(r, pool)[:1+r.IntN(len(pool))]...), letter(5, 1, wantMsg(some...)), letter(5, 1, helloMsg(some, mixed(r, pool)[:2], some...)))
		out, t1 := deliver(t, x, b)
		if len(t1.Lost) > 0 {
			continue
		}
		acts, was := h.Acts(), look(x)
		again, t2 := deliver(t, x, b)
		wantTaken(t, "again", t2, nil)
		if h.Acts() != acts || look(x) != was || tell(again) != tell(out) {
			t.Errorf("again: %d acts, %d messages; before %d messages", h.Acts()-acts, len(again), len(out))
		}
		taken, waited, said = taken+len(t1.IDs), waited+len(must2(t, x.Waiting)), said+len(out)
	}
	if taken < 100 || waited < 100 || said < 100 {
		t.Errorf("%d were taken, %d waited, %d messages were said", taken, waited, said)
	}
}

// P22.7: what went out of the waiting ones, in that very message or ahead of the second one's coming, may be taken then.
func TestDeliverTwiceLost(t *testing.T) {
	r, _ := with(t)
	orphans := []string{}
	for i := range api.MaxWaiting + 1 {
		orphans = append(orphans, made(fmt.Sprint("orphan ", i), made("nobody's")))
	}
	_, taken := deliver(t, r, blocksTo(1, append(slices.Clone(orphans), made("nobody's"))...))
	wantTaken(t, "once", taken, append([]string{made("nobody's")}, orphans[1:]...), orphans[0])
	_, taken = deliver(t, r, blocksTo(1, append(slices.Clone(orphans), made("nobody's"))...))
	wantTaken(t, "twice", taken, orphans[:1])
	_, taken = deliver(t, r, blocksTo(1, append(slices.Clone(orphans), made("nobody's"))...))
	wantTaken(t, "thrice", taken, nil)
}

// P22.1: the greatest messages there are come and go.
func TestGreatMessages(t *testing.T) {
	one := child(8, ofSize(api.MaxNode-10))
	two := child(7, ofSize(api.MaxNode-10))
	r, _ := with(t)
	_, taken := deliver(t, r, blocksTo(1, one, two))
	wantTaken(t, "two great blocks", taken, []string{one, two})
	out, _ := deliver(t, r, letter(5, 1, wantMsg(one, two)))
	if len(out) != 1 || len(out[0]) > api.MaxMessage+42 || len(out[0]) < 2*api.MaxNode-20 {
		t.Fatalf("%d messages", len(out))
	}
	d, _ := disk.New(1 << 24)
	s := open(t, d, 5)
	_, taken = deliver(t, s, out[0])
	wantTaken(t, "told on", taken, sorted(one, two))
}
