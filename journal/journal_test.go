package journal_test

import (
	"bytes"
	"fmt"
	"slices"
	"strings"
	"testing"

	"pleach/api"
	"pleach/disk"
	"pleach/journal"
)

// opened tells a journal on a new disk of such files, with room for so many bytes more.
func opened(t *testing.T, room int, files ...api.File) (*journal.Journal, *disk.Disk, *disk.Hand) {
	t.Helper()
	for _, f := range files {
		room += len(f.Bytes)
	}
	d, h := disk.Lay(room, files)
	j, _, e := journal.Open(d)
	if j == nil || e != api.OK {
		t.Fatalf("Open of %s: %d", showFiles(files), e)
	}
	return j, d, h
}

// lays lays payloads, all of which must be taken.
func lays(t *testing.T, j *journal.Journal, payloads ...string) {
	t.Helper()
	for _, p := range payloads {
		if e := j.Append([]byte(p)); e != api.OK {
			t.Fatalf("Append of %d bytes: %d", len(p), e)
		}
	}
}

// wantPayloads fails, if a disk, opened on a copy of its own, hasn't these payloads.
func wantPayloads(t *testing.T, what string, h *disk.Hand, payloads ...string) {
	t.Helper()
	d, _ := h.Copy()
	if _, l, e := journal.Open(d); e != api.OK || !slices.Equal(texts(l), payloads) {
		t.Errorf("%s: opened again: %s, %d; want %s", what, show(texts(l)), e, show(payloads))
	}
}

// wantCall fails, if a call does otherwise: files are those of the disk, told what the journal is told ahead of it.
func wantCall(t *testing.T, what string, files []api.File, told, call func(*journal.Journal) api.Errno, want api.Errno, acts ...act) {
	t.Helper()
	made := func() (*disk.Hand, func() api.Errno) {
		j, _, h := opened(t, 4<<20, files...)
		if told != nil {
			told(j)
		}
		return h, func() api.Errno { return call(j) }
	}
	if _, call := made(); true {
		if e := call(); e != want {
			t.Errorf("%s: %d; want %d", what, e, want)
		}
	}
	wantActs(t, what, made, acts...)
}

func appending(p string) func(*journal.Journal) api.Errno {
	return func(j *journal.Journal) api.Errno { return j.Append([]byte(p)) }
}

func keeping(n int) func(*journal.Journal) api.Errno {
	return func(j *journal.Journal) api.Errno { return j.Keep(n) }
}

// all does calls one behind the other, and tells what the last one answered.
func all(l ...func(*journal.Journal) api.Errno) func(*journal.Journal) api.Errno {
	return func(j *journal.Journal) api.Errno {
		e := api.OK
		for _, f := range l {
			e = f(j)
		}
		return e
	}
}

var syncing = (*journal.Journal).Sync

// P8.2, P8.3, P8.4, P8.5: the chapter's examples, told one behind the other.
func TestExamples(t *testing.T) {
	j, _, h := opened(t, 1<<20)
	for _, s := range []struct {
		what string
		do   func(*journal.Journal) api.Errno
		want api.Errno
		acts int
	}{
		{"Sync", syncing, api.OK, 0},
		{"Append", appending("ab"), api.OK, 1},
		{"Append of nothing", appending(""), api.ErrArg, 1},
		{"Sync", syncing, api.OK, 2},
		{"Sync", syncing, api.OK, 2},
		{"Append of 65 000 bytes", appending(string(make([]byte, 65000))), api.OK, 3},
		{"Append of 600 bytes", appending(string(make([]byte, 600))), api.OK, 5},
	} {
		if e := s.do(j); e != s.want || h.Acts() != s.acts {
			t.Errorf("%s: %d, %d acts by then; want %d, %d", s.what, e, h.Acts(), s.want, s.acts)
		}
	}
	want := []api.File{
		{Name: "j0000", Bytes: framesOf("ab", string(make([]byte, 65000))), Safe: 65034},
		{Name: "j0001", Bytes: framesOf(string(make([]byte, 600))), Safe: 0},
	}
	if j.Len() != 3 || !sameFiles(h.Files(), want) {
		t.Errorf("Len %d, %s", j.Len(), showFiles(h.Files()))
	}
	if j.Keep(4) != api.ErrRange || j.Keep(3) != api.OK || h.Acts() != 5 || j.Keep(1) != api.OK || h.Acts() != 7 || j.Len() != 1 {
		t.Errorf("Keep: %d acts, Len %d", h.Acts(), j.Len())
	}
	if f := h.Files(); !sameFiles(f, []api.File{{Name: "j0000", Bytes: framesOf("ab"), Safe: 18}}) {
		t.Errorf("kept: %s", showFiles(f))
	}
}

// P8.2: payloads of no byte, of 1, of MaxNode and of one more.
func TestAppendLengths(t *testing.T) {
	first := []api.File{seg(0, framesOf("ab"))}
	for _, n := range []int{1, 2, 15, 16, 17, 255, 256, 257, 600, 65535, 65536, 65537, api.MaxNode - 1, api.MaxNode} {
		p := strings.Repeat("x", n)
		wantCall(t, fmt.Sprint(n, " bytes"), nil, nil, appending(p), api.OK, appends(0, frameOf(p)))
		if n > 65502 {
			wantCall(t, fmt.Sprint(n, " bytes more"), first, nil, appending(p), api.OK, syncs(0), appends(1, frameOf(p)))
		} else {
			wantCall(t, fmt.Sprint(n, " bytes more"), first, nil, appending(p), api.OK, appends(0, frameOf(p)))
		}
	}
	long := string(make([]byte, api.MaxNode+1))
	for _, files := range [][]api.File{nil, first, {seg(0, nil)}} {
		wantCall(t, "no bytes", files, nil, appending(""), api.ErrArg)
		wantCall(t, "nil", files, nil, func(j *journal.Journal) api.Errno { return j.Append(nil) }, api.ErrArg)
		wantCall(t, "one too many", files, nil, appending(long), api.ErrBytes)
		wantCall(t, "many too many", files, nil, appending(long+long), api.ErrBytes)
	}
}

// P8.2: a frame goes into the present segment up to just MaxSegment bytes, into the next one with one more.
func TestAppendSegments(t *testing.T) {
	for _, has := range []int{17, 18, 1000, 32768, 65519, 65520, 65535, 65536, 65537, 200000} {
		p := strings.Repeat("p", has-16)
		for _, n := range []int{1, 2, 65536 - has - 17, 65536 - has - 16, 65536 - has - 15, 65536 - has, 65536} {
			if n < 1 {
				continue
			}
			b := strings.Repeat("b", n)
			acts := []act{appends(0, frameOf(b))}
			if has+16+n > 65536 {
				acts = []act{syncs(0), appends(1, frameOf(b))}
			}
			wantCall(t, fmt.Sprintf("%d bytes to %d", n, has), nil, appending(p), appending(b), api.OK, acts...)
			wantCall(t, fmt.Sprintf("%d bytes to %d, read", n, has), []api.File{seg(0, frameOf(p))}, nil, appending(b), api.OK, acts...)
		}
	}
}

// P8.2: an empty present segment takes a frame of any length, be it empty since Open, or by a Keep.
func TestAppendToEmptySegment(t *testing.T) {
	long := strings.Repeat("x", 100000)
	most := strings.Repeat("y", 60000)
	for _, p := range []string{"x", most, long, strings.Repeat("z", api.MaxNode)} {
		wantCall(t, "an empty one", []api.File{seg(0, nil)}, nil, appending(p), api.OK, appends(0, frameOf(p)))
		wantCall(t, "an empty last one", []api.File{seg(0, framesOf("a")), seg(1, nil)}, nil, appending(p), api.OK, appends(1, frameOf(p)))
		wantCall(t, "one torn at its beginning", []api.File{seg(0, framesOf("a")), seg(1, []byte{1})}, nil, appending(p), api.OK, appends(1, frameOf(p)))
		wantCall(t, "one kept empty", nil, all(appending(most), appending(most), keeping(0)), appending(p), api.OK, appends(0, frameOf(p)))
		wantCall(t, "a second one kept empty", nil, all(appending(most), appending(most), appending("c"), keeping(1)), appending(p), api.OK, appends(1, frameOf(p)))
	}
}

// P8.2: a long row of frames fills segment after segment; what was laid is told when it is opened again.
func TestAppendMany(t *testing.T) {
	r := chance()
	j, _, h := opened(t, 1<<24)
	rows, segments := []string{}, [][]string{{}}
	for range 300 {
		p := string(someBytes(r, 1+r.IntN(9000)))
		lays(t, j, p)
		rows = append(rows, p)
		last := len(segments) - 1
		if len(framesOf(segments[last]...))+16+len(p) > 65536 {
			segments = append(segments, nil)
			last++
		}
		segments[last] = append(segments[last], p)
	}
	want := []api.File{}
	for k, l := range segments {
		f := api.File{Name: segmentName(k), Bytes: framesOf(l...)}
		if k < len(segments)-1 {
			f.Safe = len(f.Bytes)
		}
		want = append(want, f)
	}
	if len(want) < 10 || !sameFiles(h.Files(), want) || j.Len() != 300 || h.Acts() != 300+len(want)-1 {
		t.Errorf("Len %d, %d acts, %s; want %s", j.Len(), h.Acts(), showFiles(h.Files()), showFiles(want))
	}
	wantPayloads(t, "many", h, rows...)
}

// manyFiles tells so many empty files that are no segments.
func manyFiles(n int) []api.File {
	l := []api.File{}
	for i := range n {
		l = append(l, api.File{Name: fmt.Sprint("other", i)})
	}
	return l
}

// P8.2: segment 255 takes what goes into it; what would go into the next one is refused, and no act is done.
func TestAppendLastSegment(t *testing.T) {
	files := []api.File{}
	for k := range 256 {
		files = append(files, seg(k, nil))
	}
	most := strings.Repeat("m", 65520)
	wantCall(t, "segment 255, empty", files, nil, appending(most+"m"), api.OK, appends(255, frameOf(most+"m")))
	wantCall(t, "segment 255, just full", files, appending("a"), appending(most[17:]), api.OK, appends(255, frameOf(most[17:])))
	wantCall(t, "segment 255, one byte more", files, appending("a"), appending(most[16:]), api.ErrRoom)
	wantCall(t, "segment 255 full", files, appending(most), appending("a"), api.ErrRoom)
	wantCall(t, "segment 255 full: no bytes", files, appending(most), appending(""), api.ErrArg)
	wantCall(t, "segment 255 full: too many bytes", files, appending(most), appending(string(make([]byte, api.MaxNode+1))), api.ErrBytes)
	wantCall(t, "segment 255 full: Sync", files, all(appending(most), appending("a")), syncing, api.OK, syncs(255))
	wantCall(t, "segment 255 full: Keep", files, all(appending(most), appending("a")), keeping(0), api.OK, cuts(255, 0))
	wantCall(t, "segment 255 kept", files, all(appending(most), appending("a"), keeping(0)), appending("a"), api.OK, appends(255, frameOf("a")))
	j, _, h := opened(t, 1<<20, files...)
	lays(t, j, most)
	if e := j.Append([]byte("a")); e != api.ErrRoom || j.Len() != 1 {
		t.Errorf("full: %d, Len %d", e, j.Len())
	}
	wantPayloads(t, "full", h, most)
	next, _, h := opened(t, 1<<20, files[:255]...)
	lays(t, next, most, "a")
	if f := h.Files(); len(f) != 256 || f[255].Name != "j0255" || !bytes.Equal(f[255].Bytes, frameOf("a")) {
		t.Errorf("the segment behind 254: %s", showFiles(f))
	}
}

// P8.2: a journal fills all its segments, and no more.
func TestAppendFillsAll(t *testing.T) {
	j, _, h := opened(t, 1<<25)
	p := bytes.Repeat([]byte{9}, 65520)
	for k := range 256 {
		if e := j.Append(p); e != api.OK {
			t.Fatalf("segment %d: %d", k, e)
		}
	}
	acts := h.Acts()
	if e := j.Append([]byte{1}); e != api.ErrRoom || h.Acts() != acts || acts != 511 || j.Len() != 256 {
		t.Errorf("full: %d, %d acts of %d, Len %d", e, h.Acts(), acts, j.Len())
	}
}

// P8.2: a disk without room: nothing changes, the present segment neither, but for the Sync ahead of it.
func TestAppendNoRoom(t *testing.T) {
	most := strings.Repeat("m", 65519)
	j, _, h := opened(t, 65536)
	lays(t, j, "a")
	if e := j.Append([]byte(most)); e != api.ErrRoom || j.Len() != 1 || h.Acts() != 2 {
		t.Errorf("no room in the next: %d, Len %d, %d acts", e, j.Len(), h.Acts())
	}
	if f := h.Files(); !sameFiles(f, []api.File{{Name: "j0000", Bytes: framesOf("a"), Safe: 17}}) {
		t.Errorf("no room in the next: %s", showFiles(f))
	}
	if e := j.Sync(); e != api.OK || h.Acts() != 3 {
		t.Errorf("Sync behind it: %d, %d acts", e, h.Acts())
	}
	lays(t, j, "b")
	if f := h.Files(); !sameFiles(f, []api.File{{Name: "j0000", Bytes: framesOf("a", "b"), Safe: 17}}) {
		t.Errorf("laid behind it: %s", showFiles(f))
	}
	wantPayloads(t, "no room in the next", h, "a", "b")

	for room := range 60 {
		j, _, h := opened(t, room)
		want := api.OK
		if room < 20 {
			want = api.ErrRoom
		}
		if e := j.Append([]byte("four")); e != want || (j.Len() == 1) != (want == api.OK) || len(h.Files()) != j.Len() || h.Acts() != j.Len() {
			t.Errorf("room for %d: %d, Len %d, %s", room, e, j.Len(), showFiles(h.Files()))
		}
		if room < 20 {
			if e := j.Sync(); e != api.OK || h.Acts() != 0 {
				t.Errorf("room for %d: Sync %d, %d acts", room, e, h.Acts())
			}
		}
		want = api.OK
		if room < 20+17 && room >= 20 || room < 17 {
			want = api.ErrRoom
		}
		if e := j.Append([]byte("x")); e != want {
			t.Errorf("room for %d: then %d", room, e)
		}
	}
}

// P8.2: a disk with too many files answers ErrMany, the journal ErrRoom.
func TestAppendTooManyFiles(t *testing.T) {
	most := strings.Repeat("m", 65520)
	full := manyFiles(256)
	wantCall(t, "no first segment", full, nil, appending("a"), api.ErrRoom)
	wantCall(t, "no first segment: Sync", full, appending("a"), syncing, api.OK)
	some := append(manyFiles(255), seg(0, framesOf("a")))
	wantCall(t, "the present one", some, nil, appending("b"), api.OK, appends(0, frameOf("b")))
	wantCall(t, "no next one", some, appending("b"), appending(most), api.ErrRoom, syncs(0))
	wantCall(t, "no next one: Append", some, all(appending("b"), appending(most)), appending("c"), api.OK, appends(0, frameOf("c")))
	wantCall(t, "no next one: Sync", some, all(appending("b"), appending(most)), syncing, api.OK, syncs(0))
	wantCall(t, "no next one: Sync, nothing laid", some, appending(most), syncing, api.OK)
	wantCall(t, "no next one: Keep", some, all(appending("b"), appending(most)), keeping(1), api.OK, cuts(0, 17))
	j, _, h := opened(t, 1<<20, some...)
	if e := j.Append([]byte(most)); e != api.ErrRoom || j.Len() != 1 {
		t.Errorf("no next one: %d, Len %d", e, j.Len())
	}
	wantPayloads(t, "no next one", h, "a")
}

// P8.3: an act of the present segment, if a frame was laid since Open and since the last Sync; none, if not.
func TestSync(t *testing.T) {
	most := strings.Repeat("m", 65520)
	files := []api.File{seg(0, framesOf("a"))}
	wantCall(t, "none laid", nil, nil, syncing, api.OK)
	wantCall(t, "none laid since Open", files, nil, syncing, api.OK)
	wantCall(t, "an empty segment", []api.File{seg(0, nil)}, nil, syncing, api.OK)
	wantCall(t, "one laid", files, appending("b"), syncing, api.OK, syncs(0))
	wantCall(t, "twice", files, all(appending("b"), syncing), syncing, api.OK)
	wantCall(t, "laid again", files, all(appending("b"), syncing, appending("c")), syncing, api.OK, syncs(0))
	wantCall(t, "into the next one", files, all(appending("b"), appending(most)), syncing, api.OK, syncs(1))
	wantCall(t, "refused", files, all(appending(""), appending(string(make([]byte, api.MaxNode+1)))), syncing, api.OK)
}

// P8.3, P8.4: a Sync behind a Keep does its act, if frames were laid since the last one, though they have gone.
func TestSyncBehindKeep(t *testing.T) {
	most := strings.Repeat("m", 65520)
	files := []api.File{seg(0, framesOf("a", "b"))}
	wantCall(t, "all that was laid is gone", files, all(appending("c"), keeping(2)), syncing, api.OK, syncs(0))
	wantCall(t, "more is gone", files, all(appending("c"), keeping(0)), syncing, api.OK, syncs(0))
	wantCall(t, "a segment is gone", files, all(appending(most), keeping(1)), syncing, api.OK, syncs(0))
	wantCall(t, "a segment is empty", files, all(appending(most), keeping(2)), syncing, api.OK, syncs(1))
	wantCall(t, "once", files, all(appending("c"), keeping(2), syncing), syncing, api.OK)
	wantCall(t, "none laid", files, keeping(1), syncing, api.OK)
	wantCall(t, "none laid since Sync", files, all(appending("c"), syncing, keeping(1)), syncing, api.OK)
}

// P8.4: each number of frames, over several segments: the acts, and what is left.
func TestKeep(t *testing.T) {
	most, half := strings.Repeat("m", 65500), strings.Repeat("h", 40000)
	rows := []string{"a", "bb", half, half, "c", most, most, "d", "e"}
	made := func() (*journal.Journal, *disk.Hand) {
		j, _, h := opened(t, 1<<20)
		lays(t, j, rows...)
		return j, h
	}
	segments := []int{0, 0, 0, 1, 1, 2, 3, 3, 4}
	places := []int{0, 17, 35, 0, 40016, 0, 0, 65516, 0}
	for n := -2; n <= len(rows)+2; n++ {
		j, h := made()
		acts := h.Acts()
		if n < 0 || n >= len(rows) {
			want := api.ErrRange
			if n == len(rows) {
				want = api.OK
			}
			if e := j.Keep(n); e != want || h.Acts() != acts || j.Len() != len(rows) {
				t.Errorf("Keep(%d): %d, Len %d, %d acts", n, e, j.Len(), h.Acts()-acts)
			}
			continue
		}
		want := []act{}
		for k := 4; k > segments[n]; k-- {
			want = append(want, drops(k))
		}
		want = append(want, cuts(segments[n], places[n]))
		wantActs(t, fmt.Sprintf("Keep(%d)", n), func() (*disk.Hand, func() api.Errno) {
			j, h := made()
			return h, func() api.Errno { return j.Keep(n) }
		}, want...)
		if e := j.Keep(n); e != api.OK || j.Len() != n {
			t.Errorf("Keep(%d): %d, Len %d", n, e, j.Len())
		}
		wantPayloads(t, fmt.Sprintf("Keep(%d)", n), h, rows[:n]...)
		lays(t, j, "x", "y")
		wantPayloads(t, fmt.Sprintf("Keep(%d), and two more", n), h, append(slices.Clone(rows[:n]), "x", "y")...)
		if f := h.Files(); places[n] < 60000 && (len(f) != segments[n]+1 || len(f[segments[n]].Bytes) != places[n]+34) {
			t.Errorf("Keep(%d), and two more: %s", n, showFiles(f))
		}
	}
}

// P8.4: segments without frames, which only a disk that was laid so has: the segment is that of the frame, not of the one ahead of it.
func TestKeepEmptySegments(t *testing.T) {
	files := []api.File{seg(0, nil), seg(1, framesOf("a", "b")), seg(2, nil), seg(3, framesOf("c")), seg(4, nil)}
	wantCall(t, "Keep(0)", files, nil, keeping(0), api.OK, drops(4), drops(3), drops(2), cuts(1, 0))
	wantCall(t, "Keep(1)", files, nil, keeping(1), api.OK, drops(4), drops(3), drops(2), cuts(1, 17))
	wantCall(t, "Keep(2)", files, nil, keeping(2), api.OK, drops(4), cuts(3, 0))
	wantCall(t, "Keep(3)", files, nil, keeping(3), api.OK)
	wantCall(t, "Keep(4)", files, nil, keeping(4), api.ErrRange)
	wantCall(t, "Append behind Keep(2)", files, keeping(2), appending("x"), api.OK, appends(3, frameOf("x")))
	wantCall(t, "Keep(0) of none", nil, nil, keeping(0), api.OK)
	wantCall(t, "Keep(1) of none", nil, nil, keeping(1), api.ErrRange)
	wantCall(t, "Keep of what is far off", files, nil, keeping(1<<62), api.ErrRange)
	wantCall(t, "Keep of what is far below", files, nil, keeping(-1<<62), api.ErrRange)
	wantCall(t, "Keep behind Keep", files, keeping(1), keeping(1), api.OK)
	wantCall(t, "Keep beyond Keep", files, keeping(1), keeping(2), api.ErrRange)
}

// P8.5: the frames that were read, and laid, less those that were taken away; those of calls that were refused don't count.
func TestLen(t *testing.T) {
	j, _, h := opened(t, 200, seg(0, framesOf("a", "b")))
	want := func(what string, n int) {
		t.Helper()
		if j.Len() != n {
			t.Errorf("%s: %d; want %d", what, j.Len(), n)
		}
	}
	want("read", 2)
	lays(t, j, "c", "d")
	want("laid", 4)
	j.Append(nil)
	j.Append(make([]byte, api.MaxNode+1))
	j.Append(make([]byte, 1000))
	want("refused", 4)
	j.Keep(5)
	j.Keep(-1)
	want("no such number", 4)
	j.Keep(3)
	want("kept", 3)
	h.Fuse(0)
	if e := j.Append([]byte("e")); e != api.ErrPower {
		t.Errorf("the power going: %d", e)
	}
	want("laid when the power went", 3)
	j.Keep(0)
	want("kept when dead", 3)
}

// P8.3, P8.4, P8.2: a journal that met the power's end is dead for ever, whatever it is told, and does no act, though the power comes again.
func TestDead(t *testing.T) {
	most := strings.Repeat("m", 65520)
	for what, last := range map[string]func(*journal.Journal) api.Errno{
		"Append":                  appending("c"),
		"Append's Sync":           appending(most),
		"Sync":                    syncing,
		"Keep's Drop":             keeping(0),
		"Keep's Cut":              keeping(2),
		"Append behind a refusal": all(appending(""), appending("c")),
	} {
		j, d, h := opened(t, 1<<20)
		lays(t, j, "a", most, "b")
		h.Fuse(0)
		if e := last(j); e != api.ErrPower || j.Len() != 3 {
			t.Fatalf("%s: %d, Len %d", what, e, j.Len())
		}
		for _, come := range []bool{false, true} {
			if come {
				h.Crash([]int{0, 1 << 20})
				if _, _, e := journal.Open(d); e != api.OK {
					t.Errorf("%s: opened again: %d", what, e)
				}
			}
			acts, before := h.Acts(), h.Files()
			for i, e := range []api.Errno{j.Append([]byte("x")), j.Append(nil), j.Append(make([]byte, api.MaxNode+1)), j.Sync(), j.Keep(0), j.Keep(3), j.Keep(-1), j.Keep(4)} {
				if e != api.ErrPower {
					t.Errorf("%s: call %d of a dead one: %d", what, i, e)
				}
			}
			if h.Acts() != acts || !sameFiles(h.Files(), before) || j.Len() != 3 {
				t.Errorf("%s: a dead one did acts: %s, Len %d", what, showFiles(h.Files()), j.Len())
			}
		}
	}
}

// P8.2, P8.3, P8.4: a journal to which the disk hasn't answered ErrPower isn't dead, though the power is gone: what does no act answers as ever.
func TestPowerGoneUnheard(t *testing.T) {
	most := strings.Repeat("m", 65520)
	made := func() (*journal.Journal, *disk.Hand) {
		j, d, h := opened(t, 1<<20, seg(0, framesOf("a", "b")))
		h.Fuse(0)
		d.Append("x", nil)
		return j, h
	}
	j, h := made()
	acts := h.Acts()
	if j.Sync() != api.OK || j.Append(nil) != api.ErrArg || j.Append(make([]byte, api.MaxNode+1)) != api.ErrBytes || j.Keep(2) != api.OK || j.Keep(3) != api.ErrRange || j.Len() != 2 || h.Acts() != acts {
		t.Error("not dead, but answers as if it were")
	}
	h.Crash(nil)
	if e := j.Append([]byte("c")); e != api.OK || j.Len() != 3 {
		t.Errorf("the power is there again: %d", e)
	}
	for what, call := range map[string]func(*journal.Journal) api.Errno{"Append": appending("c"), "Append into the next": appending(most), "Keep": keeping(1)} {
		j, h := made()
		if e := call(j); e != api.ErrPower || j.Len() != 2 || h.Acts() != acts {
			t.Errorf("%s: %d, Len %d", what, e, j.Len())
		}
		h.Crash(nil)
		if j.Append([]byte("d")) != api.ErrPower || j.Sync() != api.ErrPower || j.Keep(2) != api.ErrPower {
			t.Errorf("%s: alive again", what)
		}
	}
}
