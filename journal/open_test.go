package journal_test

import (
	"bytes"
	"encoding/binary"
	"fmt"
	"slices"
	"strings"
	"testing"

	"pleach/api"
	"pleach/disk"
	"pleach/journal"
)

// wantActs fails, if a call does other acts than these, or in another order: the power goes at each of them in turn, and what is on the disk then, and how many acts there were, must be what the acts alone make of it. made tells a new disk, ready for the call, and the call.
func wantActs(t *testing.T, what string, made func() (*disk.Hand, func() api.Errno), acts ...act) {
	t.Helper()
	for fuse := range len(acts) + 2 {
		h, call := made()
		d, other := h.Copy()
		h.Fuse(fuse)
		other.Fuse(fuse)
		said := call()
		does(d, acts...)
		if (said == api.ErrPower) != (fuse < len(acts)) || h.Out() != other.Out() {
			t.Errorf("%s: the power going at act %d: answered %d, the power gone: %v; the acts are %v", what, fuse, said, h.Out(), acts)
		}
		if h.Acts() != other.Acts() || !sameFiles(h.Files(), other.Files()) {
			t.Errorf("%s: the power going at act %d: %d acts, %s; want %d acts, %s: %v", what, fuse, h.Acts(), showFiles(h.Files()), other.Acts(), showFiles(other.Files()), acts)
		}
	}
}

// seg tells a segment of which nothing is safe.
func seg(k int, b []byte) api.File { return api.File{Name: segmentName(k), Bytes: b} }

// wantOpen fails, if Open of a disk of such files tells other payloads, does other acts, or leaves another file as it wasn't.
func wantOpen(t *testing.T, what string, files []api.File, payloads []string, acts ...act) {
	t.Helper()
	d, _ := disk.Lay(0, files)
	j, l, e := journal.Open(d)
	if j == nil || e != api.OK || !slices.Equal(texts(l), payloads) || j.Len() != len(payloads) {
		t.Errorf("%s: %v, %s, %d; want %s", what, j != nil, show(texts(l)), e, show(payloads))
	}
	wantActs(t, what, func() (*disk.Hand, func() api.Errno) {
		d, h := disk.Lay(0, files)
		return h, func() api.Errno {
			j, l, e := journal.Open(d)
			if e != api.OK && (j != nil || len(l) != 0) {
				t.Errorf("%s: %v, %s beside error %d", what, j != nil, show(texts(l)), e)
			}
			return e
		}
	}, acts...)
}

// P8.1: the chapter's examples of Open.
func TestOpenExamples(t *testing.T) {
	ab, c := frameOf("ab"), frameOf("c")
	if want := []byte("\x02\x00\x00\x00\xfd\xff\xff\xff\xfb\x8e\x20\xfc\x2e\x4c\x3f\x24ab"); !bytes.Equal(ab, want) {
		t.Fatalf("the frame of \"ab\": %x", ab)
	}
	wantOpen(t, "an empty disk", nil, nil)
	wantOpen(t, "a frame and three bytes", []api.File{seg(0, append(framesOf("ab"), 2, 0, 0))}, []string{"ab"}, cuts(0, 18), syncs(0))
	wantOpen(t, "a frame of no payload", []api.File{seg(0, framesOf("ab", ""))}, []string{"ab"}, cuts(0, 18), syncs(0))
	wantOpen(t, "a gap", []api.File{seg(0, ab), seg(2, c), {Name: "x", Bytes: []byte{1}}}, []string{"ab"}, drops(2), syncs(0))
	wantOpen(t, "segment 1 alone", []api.File{seg(1, ab)}, nil, drops(1))
	wantOpen(t, "an empty segment 0", []api.File{seg(0, nil), seg(1, c)}, []string{"c"}, syncs(1))
	wantOpen(t, "a torn segment 0", []api.File{seg(0, []byte{1}), seg(1, c)}, nil, drops(1), cuts(0, 0), syncs(0))
}

// P8.1: no disk, and one whose power is gone; nothing is done then.
func TestOpenRefused(t *testing.T) {
	if j, l, e := journal.Open(nil); j != nil || len(l) != 0 || e != api.ErrArg {
		t.Errorf("Open(nil): %v, %v, %d", j, l, e)
	}
	for _, files := range [][]api.File{nil, {seg(0, framesOf("ab"))}, {seg(1, nil)}} {
		d, h := disk.Lay(100, files)
		h.Fuse(0)
		d.Append("x", nil)
		before := h.Files()
		if j, l, e := journal.Open(d); j != nil || len(l) != 0 || e != api.ErrPower || h.Acts() != 1 || !sameFiles(h.Files(), before) {
			t.Errorf("the power gone: %v, %v, %d, %d acts", j, l, e, h.Acts())
		}
	}
}

// P8.1: segments without bytes have no tear; the last one that was read is the present one.
func TestOpenEmptySegments(t *testing.T) {
	wantOpen(t, "one", []api.File{seg(0, nil)}, nil, syncs(0))
	wantOpen(t, "three", []api.File{seg(0, nil), seg(1, nil), seg(2, nil)}, nil, syncs(2))
	wantOpen(t, "the last two", []api.File{seg(0, framesOf("a", "b")), seg(1, nil), seg(2, nil)}, []string{"a", "b"}, syncs(2))
	wantOpen(t, "one between", []api.File{seg(0, framesOf("a")), seg(1, nil), seg(2, framesOf("b"))}, []string{"a", "b"}, syncs(2))
	wantOpen(t, "behind a gap", []api.File{seg(0, framesOf("a")), seg(2, nil), seg(3, nil)}, []string{"a"}, drops(3), drops(2), syncs(0))
	for k, present := range []int{0, 1, 2} {
		files := []api.File{seg(0, nil), seg(1, nil), seg(2, nil)}[:k+1]
		wantActs(t, "Append", func() (*disk.Hand, func() api.Errno) {
			d, h := disk.Lay(100, files)
			j, _, _ := journal.Open(d)
			return h, func() api.Errno { return j.Append([]byte("x")) }
		}, appends(present, frameOf("x")))
	}
}

// P8.1: a gap in the numbers, wherever it is: what stands behind it goes, the greatest number first.
func TestOpenGap(t *testing.T) {
	for gap := range 5 {
		files, payloads, acts := []api.File{}, []string{}, []act{}
		for k := range 5 {
			if k != gap {
				files = append(files, seg(k, framesOf(fmt.Sprint(k), "x")))
			}
			if k < gap {
				payloads = append(payloads, fmt.Sprint(k), "x")
			}
			if 4-k > gap {
				acts = append(acts, drops(4-k))
			}
		}
		if gap > 0 {
			acts = append(acts, syncs(gap-1))
		}
		wantOpen(t, fmt.Sprint("no segment ", gap), files, payloads, acts...)
	}
	wantOpen(t, "far apart", []api.File{seg(255, framesOf("a")), seg(0, framesOf("b")), seg(7, nil), seg(9, []byte{1})}, []string{"b"}, drops(255), drops(9), drops(7), syncs(0))
}

// P8.1: names that are no segments' are no matter of a journal's.
func TestOpenOtherFiles(t *testing.T) {
	b := framesOf("other")
	files := []api.File{seg(0, framesOf("ab"))}
	for _, s := range []string{"j0256", "j0999", "j9999", "j000", "j00000", "j00001", "j001", "j1", "j", "j.001", "j0001.", ".j0001", "k0001", "i0001", "0001", "00001", "j00a1", "x", "jj001"} {
		files = append(files, api.File{Name: s, Bytes: b, Safe: 3})
	}
	wantOpen(t, "others beside segment 0", files, []string{"ab"}, syncs(0))
	wantOpen(t, "others alone", files[1:], nil)
	wantOpen(t, "others, and a tear", append([]api.File{seg(1, b)}, append(files[1:], seg(0, append(framesOf("c"), 9)))...), []string{"c"}, drops(1), cuts(0, 17), syncs(0))
}

// P8.1: a tear in each of the segments, behind each of its frames.
func TestOpenTearInEach(t *testing.T) {
	rows := [][]string{{"a", "bb", "ccc"}, {"d"}, {}, {"e", "f"}}
	for torn, row := range rows {
		for whole := range len(row) + 1 {
			files, payloads, acts := []api.File{}, []string{}, []act{}
			for k, r := range rows {
				b := framesOf(r...)
				if k == torn {
					b = append(framesOf(r[:whole]...), bytes.Repeat([]byte{7}, 40)...)
					b = append(b, framesOf(r[whole:]...)...)
					payloads = append(payloads, r[:whole]...)
				} else if k < torn {
					payloads = append(payloads, r...)
				}
				files = append(files, seg(k, b))
			}
			for k := len(rows) - 1; k > torn; k-- {
				acts = append(acts, drops(k))
			}
			acts = append(acts, cuts(torn, len(framesOf(row[:whole]...))), syncs(torn))
			wantOpen(t, fmt.Sprintf("segment %d torn behind %d frames", torn, whole), files, payloads, acts...)
		}
	}
}

// P8.1: a frame that is cut short at any byte is a tear, if a byte of it is there.
func TestOpenCutFrame(t *testing.T) {
	whole := framesOf("ab", "hello")
	for n := range len(whole) + 1 {
		payloads, tear := []string{}, 0
		if n >= 18 {
			payloads, tear = []string{"ab"}, 18
		}
		if n == len(whole) {
			payloads, tear = []string{"ab", "hello"}, n
		}
		acts := []act{syncs(0)}
		if tear < n {
			acts = []act{cuts(0, tear), syncs(0)}
		}
		wantOpen(t, fmt.Sprint("cut to ", n), []api.File{seg(0, whole[:n])}, payloads, acts...)
	}
}

// P8.1: a frame with one byte turned, whichever and however, is a tear, though a right one stands behind it.
func TestOpenTurnedByte(t *testing.T) {
	whole := framesOf("ab", "hello", "c")
	for at := 18; at < 18+21; at++ {
		for by := 1; by < 256; by++ {
			b := bytes.Clone(whole)
			b[at] ^= byte(by)
			d, h := disk.Lay(0, []api.File{seg(0, b)})
			j, l, e := journal.Open(d)
			if e != api.OK || j.Len() != 1 || !slices.Equal(texts(l), []string{"ab"}) || h.Acts() != 2 {
				t.Fatalf("byte %d turned by %d: %s, %d, %d acts", at, by, show(texts(l)), e, h.Acts())
			}
			if f := h.Files(); !bytes.Equal(f[0].Bytes, whole[:18]) || f[0].Safe != 18 {
				t.Fatalf("byte %d turned by %d: %s", at, by, showFiles(f))
			}
		}
	}
}

// headed tells a frame whose two lengths are as told, whatever its payload.
func headed(n, not uint32, payload string) []byte {
	b := frameOf(payload)
	binary.LittleEndian.PutUint32(b, n)
	binary.LittleEndian.PutUint32(b[4:], not)
	return b
}

// P8.1: lengths that are no payload's, those that don't fit one another, and such as lie about the bytes behind them.
func TestOpenLengths(t *testing.T) {
	ab := frameOf("ab")
	long := strings.Repeat("x", api.MaxNode+1)
	for i, b := range [][]byte{
		frameOf(""),
		frameOf(long),
		headed(0, 1<<32-1, "ab"),
		headed(1<<32-1, 0, "ab"),
		headed(1<<31, 1<<31-1, "ab"),
		headed(2, 2, "ab"),
		headed(2, 1<<32-2, "ab"),
		headed(2, 1<<32-4, "ab"),
		headed(1, 1<<32-2, "ab"),
		headed(3, 1<<32-4, "ab"),
		headed(19, 1<<32-20, "ab"),
		headed(20, 1<<32-21, "ab"),
		headed(api.MaxNode, 1<<32-1-api.MaxNode, "ab"),
		headed(api.MaxNode+1, 1<<32-2-api.MaxNode, "ab"),
		headed(1<<24|2, 1<<32-3-1<<24, "ab"),
	} {
		wantOpen(t, fmt.Sprint("length ", i), []api.File{seg(0, slices.Concat(ab, b, ab))}, []string{"ab"}, cuts(0, 18), syncs(0))
		wantOpen(t, fmt.Sprint("length alone ", i), []api.File{seg(0, b)}, nil, cuts(0, 0), syncs(0))
	}
	most := long[:api.MaxNode]
	wantOpen(t, "MaxNode", []api.File{seg(0, framesOf("ab", most, "c"))}, []string{"ab", most, "c"}, syncs(0))
}

// P8.1: a segment with more bytes than Append lays there is read as any other.
func TestOpenLongSegment(t *testing.T) {
	rows := []string{strings.Repeat("a", 65520), "b", strings.Repeat("c", 70000), "d"}
	wantOpen(t, "long", []api.File{seg(0, framesOf(rows...)), seg(1, framesOf("e"))}, append(slices.Clone(rows), "e"), syncs(1))
	wantOpen(t, "long and torn", []api.File{seg(0, append(framesOf(rows...), 1))}, rows, cuts(0, len(framesOf(rows...))), syncs(0))
}

// P8.1: all 256 segments are read, and all behind a tear go, the greatest number first.
func TestOpenAllSegments(t *testing.T) {
	files, payloads, acts := []api.File{}, []string{}, []act{}
	for k := range 256 {
		files = append(files, seg(k, framesOf(fmt.Sprint("p", k))))
		payloads = append(payloads, fmt.Sprint("p", k))
	}
	wantOpen(t, "all", files, payloads, syncs(255))
	torn := slices.Clone(files)
	torn[240] = seg(240, []byte("torn"))
	for k := 255; k > 240; k-- {
		acts = append(acts, drops(k))
	}
	wantOpen(t, "all, one torn", torn, payloads[:240], append(acts, cuts(240, 0), syncs(240))...)
	wantOpen(t, "the last ones alone", files[241:], nil, acts...)
}

// P8.1: disks of any bytes are opened as the words say.
func TestOpenWords(t *testing.T) {
	r := chance()
	for range 3000 {
		files := []api.File{}
		for k := range 1 + r.IntN(5) {
			if r.IntN(12) == 0 {
				continue
			}
			f := seg(k, nil)
			for range r.IntN(4) {
				f.Bytes = append(f.Bytes, frameOf(string(someBytes(r, 1+r.IntN(40))))...)
			}
			if len(f.Bytes) > 0 && r.IntN(5) == 0 {
				f.Bytes[r.IntN(len(f.Bytes))] ^= byte(1 << r.IntN(8))
			}
			if r.IntN(6) == 0 {
				f.Bytes = f.Bytes[:r.IntN(len(f.Bytes)+1)]
			}
			if r.IntN(6) == 0 {
				f.Bytes = append(f.Bytes, someBytes(r, r.IntN(20))...)
			}
			f.Safe = r.IntN(len(f.Bytes) + 1)
			files = append(files, f)
		}
		d, h := disk.Lay(0, files)
		d2, h2 := disk.Lay(0, files)
		fuse := r.IntN(8) - 1
		h.Fuse(fuse)
		h2.Fuse(fuse)
		_, l, e := journal.Open(d)
		_, want, wantE := modelOpen(d2, h2)
		if e != wantE || !slices.Equal(texts(l), want) || h.Acts() != h2.Acts() || !sameFiles(h.Files(), h2.Files()) {
			t.Fatalf("Open of %s, fuse %d: %s, %d, %d acts, %s; want %s, %d, %d acts, %s", showFiles(files), fuse, show(texts(l)), e, h.Acts(), showFiles(h.Files()), show(want), wantE, h2.Acts(), showFiles(h2.Files()))
		}
	}
}
