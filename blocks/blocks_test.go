package blocks_test

import (
	"bytes"
	"fmt"
	"math"
	"slices"
	"strings"
	"testing"

	"pleach/api"
	"pleach/blocks"
	"pleach/disk"
)

// opened tells a store on a new disk of such files, with room for so many bytes more.
func opened(t *testing.T, room int, files ...api.File) (*blocks.Store, *disk.Disk, *disk.Hand) {
	t.Helper()
	for _, f := range files {
		room += len(f.Bytes)
	}
	d, h := disk.Lay(room, files)
	s, e := blocks.Open(d)
	if s == nil || e != api.OK {
		t.Fatalf("Open of %s: %d", showFiles(files), e)
	}
	return s, d, h
}

// puts puts blocks, all of which must be taken.
func puts(t *testing.T, s *blocks.Store, l ...string) {
	t.Helper()
	for _, b := range l {
		if h, e := s.Put([]byte(b)); e != api.OK || h != hashOf(b) {
			t.Fatalf("Put of %d bytes: %x, %d", len(b), h, e)
		}
	}
}

// contains tells whether a block is one of a list.
func contains(l []string, b string) bool { return slices.Contains(l, b) }

// told tells all blocks, as All tells them.
func told(t *testing.T, s *blocks.Store) []string {
	t.Helper()
	l := []string{}
	for h, b := range s.All() {
		if h != hashOf(string(b)) {
			t.Errorf("All: a block of %d bytes with the hash %x", len(b), h)
		}
		l = append(l, string(b))
	}
	return l
}

// wantBlocks fails, if All, Len, Get and Has tell other blocks than these, in their order.
func wantBlocks(t *testing.T, what string, s *blocks.Store, rows ...string) {
	t.Helper()
	if l := told(t, s); !slices.Equal(l, rows) || s.Len() != len(rows) {
		t.Errorf("%s: All tells %s, Len %d; want %s", what, show(l), s.Len(), show(rows))
	}
	for _, b := range rows {
		if got, e := s.Get(hashOf(b)); e != api.OK || string(got) != b || !s.Has(hashOf(b)) {
			t.Errorf("%s: Get of a block of %d bytes: %d bytes, %d; Has %v", what, len(b), len(got), e, s.Has(hashOf(b)))
		}
	}
}

// wantNone fails, if one of these hashes has a block.
func wantNone(t *testing.T, what string, s *blocks.Store, l ...api.Hash) {
	t.Helper()
	for _, h := range l {
		if b, e := s.Get(h); len(b) != 0 || e != api.ErrAbsent || s.Has(h) {
			t.Errorf("%s: Get of %x: %d bytes, %d; Has %v", what, h, len(b), e, s.Has(h))
		}
	}
}

// wantAgain fails, if a disk, opened on a copy of its own, hasn't these blocks.
func wantAgain(t *testing.T, what string, h *disk.Hand, rows ...string) {
	t.Helper()
	d, _ := h.Copy()
	s, e := blocks.Open(d)
	if e != api.OK {
		t.Fatalf("%s: opened again: %d", what, e)
	}
	wantBlocks(t, what+", opened again", s, rows...)
}

// wantActs fails, if a call does other acts than these, or in another order: the power goes at each of them in turn, and what is on the disk then, and how many acts there were, must be what the acts alone make of it. made tells a new disk, ready for the call, and the call.
func wantActs(t *testing.T, what string, made func() (*disk.Hand, func() api.Errno), acts ...act) {
	t.Helper()
	for fuse := range len(acts) + 2 {
		h, call := made()
		d, other := h.Copy()
		h.Fuse(fuse)
		other.Fuse(fuse)
		said := call()
		does(d, acts...)
		if (said == api.ErrPower) != (fuse < len(acts)) || h.Out() != other.Out() {
			t.Errorf("%s: the power going at act %d: answered %d, the power gone: %v; the acts are %v", what, fuse, said, h.Out(), acts)
		}
		if h.Acts() != other.Acts() || !sameFiles(h.Files(), other.Files()) {
			t.Errorf("%s: the power going at act %d: %d acts, %s; want %d acts, %s: %v", what, fuse, h.Acts(), showFiles(h.Files()), other.Acts(), showFiles(other.Files()), acts)
		}
	}
}

// call is a call of a store that may be refused.
type call func(*blocks.Store) api.Errno

// wantCall fails, if a call answers otherwise, or does other acts: files are those of the disk, ahead what the store is told ahead of it.
func wantCall(t *testing.T, what string, files []api.File, ahead, does call, want api.Errno, acts ...act) {
	t.Helper()
	made := func() (*disk.Hand, func() api.Errno) {
		s, _, h := opened(t, 4<<20, files...)
		if ahead != nil {
			ahead(s)
		}
		return h, func() api.Errno { return does(s) }
	}
	_, f := made()
	if e := f(); e != want {
		t.Errorf("%s: %d; want %d", what, e, want)
	}
	wantActs(t, what, made, acts...)
}

func putting(b string) call {
	return func(s *blocks.Store) api.Errno {
		_, e := s.Put([]byte(b))
		return e
	}
}

func keeping(b string) call {
	return func(s *blocks.Store) api.Errno { return s.Keep([]byte(b)) }
}

func cutting(n int) call {
	return func(s *blocks.Store) api.Errno { return s.Cut(n) }
}

// all does calls one behind the other, and tells what the last one answered.
func all(l ...call) call {
	return func(s *blocks.Store) api.Errno {
		e := api.OK
		for _, f := range l {
			e = f(s)
		}
		return e
	}
}

var syncing call = (*blocks.Store).Sync

// P9.1: the chapter's examples, told one behind the other.
func TestExamples(t *testing.T) {
	x, y := "\x01", "\x02\x02"
	s, _, h := opened(t, 1<<20)
	for i, c := range []struct {
		do   call
		want api.Errno
		acts int
		rows []string
	}{
		{putting(x), api.OK, 1, []string{x}},
		{putting(x), api.OK, 1, []string{x}},
		{putting(""), api.ErrArg, 1, []string{x}},
		{syncing, api.OK, 2, []string{x}},
		{syncing, api.OK, 2, []string{x}},
		{putting(y), api.OK, 3, []string{x, y}},
		{cutting(1), api.OK, 4, []string{x}},
		{putting(y), api.OK, 5, []string{x, y}},
		{cutting(3), api.ErrRange, 5, []string{x, y}},
	} {
		if e := c.do(s); e != c.want || h.Acts() != c.acts {
			t.Errorf("call %d: %d, %d acts by then; want %d, %d", i, e, h.Acts(), c.want, c.acts)
		}
		wantBlocks(t, fmt.Sprint("call ", i), s, c.rows...)
		if s.Has(hashOf(y)) != contains(c.rows, y) {
			t.Errorf("call %d: Has of y: %v", i, s.Has(hashOf(y)))
		}
	}
	if f := h.Files(); !sameFiles(f, []api.File{{Name: "j0000", Bytes: framesOf(x, y), Safe: 17}}) {
		t.Errorf("on the disk: %s", showFiles(f))
	}
}

// P9.1, P9.2: the chapter's example of the power's going.
func TestExamplePower(t *testing.T) {
	x, y := "\x01", "\x02\x02"
	s, d, h := opened(t, 1<<20)
	puts(t, s, x)
	h.Fuse(0)
	if putting(y)(s) != api.ErrPower || putting(x)(s) != api.ErrPower {
		t.Error("the power is gone")
	}
	wantBlocks(t, "dead", s, x)
	wantNone(t, "dead", s, hashOf(y))
	h.Crash([]int{len(framesOf(x, y))})
	s, e := blocks.Open(d)
	if e != api.OK {
		t.Fatal(e)
	}
	wantBlocks(t, "opened again", s, x, y)
}

// P9.1: blocks of no byte, of 1, of MaxNode and of one more, put and kept; the hash is told with OK alone.
func TestPutLengths(t *testing.T) {
	first := []api.File{seg(0, framesOf("ab"))}
	for _, does := range []func(string) call{putting, keeping} {
		for _, n := range []int{1, 2, 55, 56, 63, 64, 65, 600, 65502, 65503, 65520, 65521, api.MaxNode - 1, api.MaxNode} {
			b := strings.Repeat("x", n)
			wantCall(t, fmt.Sprint(n, " bytes"), nil, nil, does(b), api.OK, appends(0, b))
			acts := []act{appends(0, b)}
			if 18+16+n > 65536 {
				acts = []act{syncs(0), appends(1, b)}
			}
			wantCall(t, fmt.Sprint(n, " bytes more"), first, nil, does(b), api.OK, acts...)
		}
		for _, files := range [][]api.File{nil, first} {
			wantCall(t, "no bytes", files, nil, does(""), api.ErrArg)
			wantCall(t, "one too many", files, nil, does(string(make([]byte, api.MaxNode+1))), api.ErrBytes)
			wantCall(t, "many too many", files, nil, does(string(make([]byte, 3*api.MaxNode))), api.ErrBytes)
		}
	}
	s, _, h := opened(t, 4<<20)
	most := strings.Repeat("m", api.MaxNode)
	for _, b := range [][]byte{nil, {}, make([]byte, api.MaxNode+1)} {
		g, e := s.Put(b)
		if g != (api.Hash{}) || e == api.OK || s.Keep(b) != e || h.Acts() != 0 || s.Len() != 0 || s.Has(hashOf(string(b))) {
			t.Errorf("Put of %d bytes: %x, %d, %d acts", len(b), g, e, h.Acts())
		}
	}
	puts(t, s, "1", most)
	wantBlocks(t, "the least and the most", s, "1", most)
	wantAgain(t, "the least and the most", h, "1", most)
}

// P9.1, P9.3: a block that is known is told, and no act is done, wherever it stands and however it came there.
func TestPutTwice(t *testing.T) {
	rows := []string{"a", "b", strings.Repeat("c", 65520), "d"}
	files := []api.File{seg(0, framesOf(rows[:2]...)), seg(1, framesOf(rows[2])), seg(2, framesOf(rows[3]))}
	for _, b := range rows {
		for _, does := range []func(string) call{putting, keeping} {
			wantCall(t, "read, then put", files, nil, does(b), api.OK)
			wantCall(t, "put, then put", files[:2], all(putting("d"), putting("e")), does(b), api.OK)
			wantCall(t, "kept, then put", nil, all(keeping("a"), keeping("b"), keeping(rows[2]), keeping("d"), syncing), does(b), api.OK)
		}
	}
	s, _, h := opened(t, 1<<20)
	for range 3 {
		puts(t, s, rows...)
		puts(t, s, rows[1], rows[0])
	}
	wantBlocks(t, "each thrice", s, rows...)
	if n := h.Acts(); n != 4+2 {
		t.Errorf("%d acts", n)
	}
	if g, e := s.Put([]byte(rows[1])); g != hashOf(rows[1]) || e != api.OK {
		t.Errorf("known: %x, %d", g, e)
	}
}

// P9.1: what was cut off isn't there, and may be put again; what was not is known as it was.
func TestPutAgainBehindCut(t *testing.T) {
	s, _, h := opened(t, 1<<20)
	puts(t, s, "a", "b", "c", "d")
	if e := s.Cut(1); e != api.OK {
		t.Fatal(e)
	}
	wantBlocks(t, "cut", s, "a")
	wantNone(t, "cut", s, hashOf("b"), hashOf("c"), hashOf("d"))
	acts := h.Acts()
	puts(t, s, "d", "a", "b", "d")
	if h.Acts() != acts+2 {
		t.Errorf("%d acts more", h.Acts()-acts)
	}
	wantBlocks(t, "put again", s, "a", "d", "b")
	wantNone(t, "put again", s, hashOf("c"))
	wantAgain(t, "put again", h, "a", "d", "b")
	if s.Cut(0) != api.OK || s.Keep([]byte("a")) != api.OK {
		t.Error("refused")
	}
	wantBlocks(t, "all cut off, one kept", s, "a")
	wantNone(t, "all cut off, one kept", s, hashOf("b"), hashOf("c"), hashOf("d"))
	wantAgain(t, "all cut off, one kept", h, "a")
	for range 5 {
		puts(t, s, "b", "c")
		if e := s.Cut(2); e != api.OK {
			t.Fatal(e)
		}
		wantBlocks(t, "again and again", s, "a", "b")
		wantNone(t, "again and again", s, hashOf("c"))
		s.Cut(1)
	}
}

// P9.1: hashes of which there is no block.
func TestAbsent(t *testing.T) {
	near := hashOf("a")
	near[31] ^= 1
	far := hashOf("a")
	far[0] ^= 0x80
	s, _, _ := opened(t, 1<<10)
	wantNone(t, "empty", s, api.Hash{}, hashOf(""), hashOf("a"))
	wantBlocks(t, "empty", s)
	puts(t, s, "a", "b")
	wantNone(t, "of two", s, api.Hash{}, hashOf(""), hashOf("c"), hashOf("ab"), near, far)
	putting("")(s)
	putting(strings.Repeat("x", 2000))(s)
	wantNone(t, "refused", s, hashOf(""), hashOf(strings.Repeat("x", 2000)))
}

// P9.1: each number of blocks, over several segments: the acts, and what is left.
func TestCut(t *testing.T) {
	most, half := strings.Repeat("m", 65500), strings.Repeat("h", 40000)
	rows := []string{"a", "bb", half, half + "2", "c", most, most + "2", "d", "e"}
	segments := []int{0, 0, 0, 1, 1, 2, 3, 3, 4}
	places := []int{0, 17, 35, 0, 40017, 0, 0, 65517, 0}
	fill := func(s *blocks.Store) api.Errno { puts(t, s, rows...); return api.OK }
	for _, n := range []int{-1, -2, math.MinInt, len(rows) + 1, len(rows) + 2, math.MaxInt} {
		wantCall(t, fmt.Sprintf("Cut(%d)", n), nil, fill, cutting(n), api.ErrRange)
		s, _, _ := opened(t, 1<<20)
		fill(s)
		s.Cut(n)
		wantBlocks(t, fmt.Sprintf("Cut(%d)", n), s, rows...)
	}
	wantCall(t, "Cut(Len)", nil, fill, cutting(len(rows)), api.OK)
	for n := range rows {
		acts := []act{}
		for k := 4; k > segments[n]; k-- {
			acts = append(acts, drops(k))
		}
		wantCall(t, fmt.Sprintf("Cut(%d)", n), nil, fill, cutting(n), api.OK, append(acts, cuts(segments[n], places[n]))...)
		s, _, h := opened(t, 1<<20)
		fill(s)
		s.Cut(n)
		what := fmt.Sprintf("Cut(%d)", n)
		wantBlocks(t, what, s, rows[:n]...)
		for _, b := range rows[n:] {
			wantNone(t, what, s, hashOf(b))
		}
		wantAgain(t, what, h, rows[:n]...)
		if s.Cut(n) != api.OK || s.Cut(n+1) != api.ErrRange {
			t.Errorf("%s: not as many as that", what)
		}
		puts(t, s, rows...)
		wantBlocks(t, what+", and put again", s, rows...)
		wantAgain(t, what+", and put again", h, rows...)
	}
	for n := -1; n < 2; n++ {
		want := api.ErrRange
		if n == 0 {
			want = api.OK
		}
		wantCall(t, fmt.Sprintf("Cut(%d) of none", n), nil, nil, cutting(n), want)
	}
}

// P9.1: a Sync is the journal's: an act of the last segment, if a block was laid since Open and the last one.
func TestSync(t *testing.T) {
	most := strings.Repeat("m", 65520)
	files := []api.File{seg(0, framesOf("a", "b"))}
	wantCall(t, "none laid", nil, nil, syncing, api.OK)
	wantCall(t, "none laid since Open", files, nil, syncing, api.OK)
	wantCall(t, "one that is known", files, putting("a"), syncing, api.OK)
	wantCall(t, "one laid", files, putting("c"), syncing, api.OK, syncs(0))
	wantCall(t, "one kept", files, keeping("c"), syncing, api.OK, syncs(0))
	wantCall(t, "twice", files, all(putting("c"), syncing), syncing, api.OK)
	wantCall(t, "laid again", files, all(putting("c"), syncing, putting("d")), syncing, api.OK, syncs(0))
	wantCall(t, "known again", files, all(putting("c"), syncing, putting("c")), syncing, api.OK)
	wantCall(t, "into the next one", files, all(putting("c"), putting(most)), syncing, api.OK, syncs(1))
	wantCall(t, "what was laid is cut off", files, all(putting("c"), cutting(2)), syncing, api.OK, syncs(0))
	wantCall(t, "cut, none laid", files, cutting(1), syncing, api.OK)
	wantCall(t, "refused", files, all(putting(""), cutting(9)), syncing, api.OK)
	s, _, h := opened(t, 1<<20)
	puts(t, s, "a", most, "b")
	if s.Sync() != api.OK || s.Len() != 3 {
		t.Error("Sync refused")
	}
	for _, f := range h.Files() {
		if f.Safe != len(f.Bytes) {
			t.Errorf("%s isn't safe", f.Name)
		}
	}
}

// P9.1: a disk without room: the block isn't there, all else is as it was, and the store lives.
func TestNoRoom(t *testing.T) {
	for room := range 60 {
		s, _, h := opened(t, room)
		want, rows := api.OK, []string{"four"}
		if room < 20 {
			want, rows = api.ErrRoom, nil
		}
		if e := s.Keep([]byte("four")); e != want || h.Acts() != len(rows) {
			t.Errorf("room for %d: %d, %d acts", room, e, h.Acts())
		}
		g, e := s.Put([]byte("six 66"))
		if room >= 20+22 {
			rows = append(rows, "six 66")
		} else if g != (api.Hash{}) || e != api.ErrRoom && room < 22 {
			t.Errorf("room for %d: %x, %d", room, g, e)
		}
		wantBlocks(t, fmt.Sprint("room for ", room), s, rows...)
		if len(rows) > 0 && (s.Keep([]byte("four")) != api.OK || s.Sync() != api.OK || s.Cut(0) != api.OK) {
			t.Errorf("room for %d: dead", room)
		}
	}
	most := strings.Repeat("m", 65519)
	s, _, h := opened(t, 65536)
	puts(t, s, "a")
	if e := s.Keep([]byte(most)); e != api.ErrRoom || h.Acts() != 2 {
		t.Errorf("no room in the next: %d, %d acts", e, h.Acts())
	}
	wantBlocks(t, "no room in the next", s, "a")
	wantNone(t, "no room in the next", s, hashOf(most))
	if f := h.Files(); !sameFiles(f, []api.File{{Name: "j0000", Bytes: framesOf("a"), Safe: 17}}) {
		t.Errorf("no room in the next: %s", showFiles(f))
	}
	puts(t, s, "b", "a")
	wantBlocks(t, "put behind it", s, "a", "b")
	wantAgain(t, "put behind it", h, "a", "b")
}

// P9.1: no room for one more file, or for one more segment.
func TestNoRoomForFiles(t *testing.T) {
	most := strings.Repeat("m", 65520)
	wantCall(t, "no first segment", manyFiles(256), nil, putting("a"), api.ErrRoom)
	some := append(manyFiles(255), seg(0, framesOf("a")))
	wantCall(t, "no next one", some, nil, putting(most), api.ErrRoom, syncs(0))
	wantCall(t, "the present one", some, putting(most), putting("b"), api.OK, appends(0, "b"))
	files := []api.File{}
	for k := range 256 {
		files = append(files, seg(k, nil))
	}
	wantCall(t, "segment 255", files, nil, putting(most), api.OK, appends(255, most))
	wantCall(t, "segment 255 full", files, putting(most), putting("a"), api.ErrRoom)
	wantCall(t, "segment 255 full: known", files, putting(most), putting(most), api.OK)
	wantCall(t, "segment 255 full: Cut", files, all(putting(most), putting("a")), cutting(0), api.OK, cuts(255, 0))
}

// P9.1: every call of a dead store, whatever it died of; it tells what it had ahead of that call, and does no act, though the power comes again.
func TestDead(t *testing.T) {
	most := strings.Repeat("m", 65520)
	rows := []string{"a", most, "b"}
	for what, last := range map[string]call{
		"Put":                  putting("c"),
		"Put's Sync":           putting(most + "2"),
		"Keep":                 keeping("c"),
		"Keep's Sync":          keeping(most + "2"),
		"Sync":                 syncing,
		"Cut's Drop":           cutting(0),
		"Cut's Cut":            cutting(2),
		"Put behind a refusal": all(putting(""), cutting(9), putting("a"), putting("c")),
	} {
		s, d, h := opened(t, 1<<20)
		puts(t, s, rows...)
		h.Fuse(0)
		if e := last(s); e != api.ErrPower {
			t.Fatalf("%s: %d", what, e)
		}
		wantDead(t, what, s, h, rows...)
		h.Crash([]int{0, 0, 1 << 20})
		if _, e := blocks.Open(d); e != api.OK {
			t.Errorf("%s: opened again: %d", what, e)
		}
		wantDead(t, what+", the power there again", s, h, rows...)
	}
}

// wantDead fails, if a store that has these blocks isn't dead.
func wantDead(t *testing.T, what string, s *blocks.Store, h *disk.Hand, rows ...string) {
	t.Helper()
	acts, before := h.Acts(), h.Files()
	// The known one comes first: it is refused though the journal isn't asked.
	for _, b := range []string{rows[0], "x", "", string(make([]byte, api.MaxNode+1)), "c"} {
		if g, e := s.Put([]byte(b)); g != (api.Hash{}) || e != api.ErrPower {
			t.Errorf("%s: Put of %d bytes: %x, %d", what, len(b), g, e)
		}
		if e := s.Keep([]byte(b)); e != api.ErrPower {
			t.Errorf("%s: Keep of %d bytes: %d", what, len(b), e)
		}
	}
	for _, n := range []int{-1, 0, 1, len(rows), len(rows) + 1} {
		if e := s.Cut(n); e != api.ErrPower {
			t.Errorf("%s: Cut(%d): %d", what, n, e)
		}
	}
	if e := s.Sync(); e != api.ErrPower {
		t.Errorf("%s: Sync: %d", what, e)
	}
	wantBlocks(t, what, s, rows...)
	wantNone(t, what, s, hashOf("c"), hashOf("x"), hashOf(""), api.Hash{})
	if h.Acts() != acts || !sameFiles(h.Files(), before) {
		t.Errorf("%s: acts were done: %s", what, showFiles(h.Files()))
	}
}

// P9.1: a store whose journal hasn't answered ErrPower isn't dead, though the power is gone: what does no act answers as ever.
func TestPowerGoneUnheard(t *testing.T) {
	made := func() (*blocks.Store, *disk.Hand) {
		s, d, h := opened(t, 1<<20, seg(0, framesOf("a", "b")))
		h.Fuse(0)
		d.Append("x", nil)
		return s, h
	}
	s, h := made()
	acts := h.Acts()
	if g, e := s.Put([]byte("a")); g != hashOf("a") || e != api.OK {
		t.Errorf("known: %x, %d", g, e)
	}
	if s.Keep([]byte("b")) != api.OK || s.Keep(nil) != api.ErrArg || s.Sync() != api.OK || s.Cut(2) != api.OK || s.Cut(3) != api.ErrRange || h.Acts() != acts {
		t.Error("not dead, but answers as if it were")
	}
	for what, does := range map[string]call{"Put": putting("c"), "Cut": cutting(1)} {
		s, h := made()
		if e := does(s); e != api.ErrPower || h.Acts() != acts {
			t.Errorf("%s: %d", what, e)
		}
		wantDead(t, what, s, h, "a", "b")
	}
}

// P9.3: no hash stands twice, and each is that of its block, whatever comes again.
func TestEachOnce(t *testing.T) {
	r := chance()
	s, _, h := opened(t, 1<<22)
	want := []string{}
	for range 600 {
		b := fmt.Sprint("block ", r.IntN(200))
		if r.IntN(60) == 0 {
			n := r.IntN(len(want) + 1)
			if e := s.Cut(n); e != api.OK {
				t.Fatal(e)
			}
			want = want[:n]
		}
		if !contains(want, b) {
			want = append(want, b)
		}
		puts(t, s, b)
	}
	seen := map[api.Hash]int{}
	for g, b := range s.All() {
		seen[g]++
		if got, e := s.Get(g); seen[g] > 1 || e != api.OK || !bytes.Equal(got, b) || hashOf(string(b)) != g {
			t.Errorf("%x: %d times, %q, %q", g, seen[g], b, got)
		}
	}
	wantBlocks(t, "much again", s, want...)
	wantAgain(t, "much again", h, want...)
}
