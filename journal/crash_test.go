package journal_test

import (
	"fmt"
	"math/rand/v2"
	"slices"
	"strings"
	"testing"

	"pleach/api"
	"pleach/disk"
	"pleach/journal"
)

// step is what a journal is told: an Append, if it has a payload, a Keep, if keep, else a Sync.
type step struct {
	payload string
	keep    bool
	n       int
}

func (s step) String() string {
	switch {
	case s.payload != "":
		return fmt.Sprintf("Append of %d bytes", len(s.payload))
	case s.keep:
		return fmt.Sprintf("Keep(%d)", s.n)
	}
	return "Sync"
}

// tells tells a journal a step.
func tells(j *journal.Journal, s step) api.Errno {
	switch {
	case s.payload != "":
		return j.Append([]byte(s.payload))
	case s.keep:
		return j.Keep(s.n)
	}
	return j.Sync()
}

// hope is what a journal may have behind a crash: a beginning of the payloads, the first sure ones at least.
type hope struct {
	payloads []string
	sure     int
}

// after tells the hope behind a step that was answered so.
func (h hope) after(s step, e api.Errno) hope {
	refused := e != api.OK && e != api.ErrPower
	switch {
	case refused:
	case s.payload != "":
		h.payloads = append(slices.Clone(h.payloads), s.payload)
	case s.keep:
		h.sure = min(h.sure, s.n)
		if e == api.OK {
			h.payloads = h.payloads[:s.n]
		}
	case e == api.OK:
		h.sure = len(h.payloads)
	}
	return h
}

// fits tells whether the payloads may be there.
func (h hope) fits(l []string) bool {
	return len(l) >= h.sure && len(l) <= len(h.payloads) && slices.Equal(l, h.payloads[:len(l)])
}

// safe tells files all of whose bytes are safe.
func safe(files []api.File) []api.File {
	l := slices.Clone(files)
	for i := range l {
		l[i].Safe = len(l[i].Bytes)
	}
	return l
}

// run opens a journal on a disk of such files, lets the power go at act number fuse (from behind Open on), and tells it the steps; it tells the disk, and what may be hoped for. Behind the power's going all calls must be answered ErrPower.
func run(t *testing.T, files []api.File, steps []step, fuse int) (*disk.Disk, *disk.Hand, hope) {
	t.Helper()
	d, h := disk.Lay(1<<24, files)
	j, l, e := journal.Open(d)
	if e != api.OK {
		t.Fatalf("Open: %d", e)
	}
	hoped := hope{payloads: texts(l), sure: len(l)}
	h.Fuse(fuse)
	dead := false
	for i, s := range steps {
		e := tells(j, s)
		if dead && e != api.ErrPower {
			t.Errorf("%v: step %d when dead: %d", steps, i, e)
		}
		if !dead {
			hoped = hoped.after(s, e)
		}
		dead = dead || e == api.ErrPower
	}
	if dead != h.Out() {
		t.Errorf("%v, fuse %d: dead %v, the power gone: %v", steps, fuse, dead, h.Out())
	}
	return d, h, hoped
}

// unsafe tells how many bytes aren't safe, of the file that has most of them.
func unsafe(h *disk.Hand) int {
	n := 0
	for _, f := range h.Files() {
		n = max(n, len(f.Bytes)-f.Safe)
	}
	return n
}

// wantCrashes fails, if behind the power's going at any act, or at none, whatever of the unsafe bytes stays (of keeps a step apart), something else is there than may be hoped for.
func wantCrashes(t *testing.T, files []api.File, steps []step, apart int) {
	t.Helper()
	for fuse, more := 0, true; more; fuse++ {
		d, h, hoped := run(t, files, steps, fuse)
		more = h.Out()
		for keep := 0; keep <= unsafe(h); keep += apart {
			_, g := h.Copy()
			wantHoped(t, g, hoped, keep, fmt.Sprintf("%v, the power gone at act %d", steps, fuse))
		}
		_, g := h.Copy()
		wantHoped(t, g, hoped, unsafe(h), fmt.Sprintf("%v, the power gone at act %d", steps, fuse))
		if more {
			if j, l, e := journal.Open(d); j != nil || len(l) != 0 || e != api.ErrPower {
				t.Errorf("%v, the power gone at act %d: Open: %d", steps, fuse, e)
			}
		}
	}
}

// wantHoped lets the power come again, so many of each file's unsafe bytes staying, and fails, if something else is there than may be hoped for; it fails, too, if a power cut within that Open changes what is told (P8.7).
func wantHoped(t *testing.T, h *disk.Hand, hoped hope, keep int, what string) {
	t.Helper()
	keeps := slices.Repeat([]int{keep}, len(h.Files()))
	h.Crash(keeps)
	d, g := h.Copy()
	_, l, e := journal.Open(d)
	if e != api.OK || !hoped.fits(texts(l)) {
		t.Errorf("%s, %d bytes kept: %s, %d; hoped for %d of %s", what, keep, show(texts(l)), e, hoped.sure, show(hoped.payloads))
	}
	for fuse := range g.Acts() - h.Acts() {
		d, g := h.Copy()
		g.Fuse(fuse)
		if _, _, e := journal.Open(d); e != api.ErrPower {
			t.Errorf("%s, %d bytes kept: Open, the power going at act %d: %d", what, keep, fuse, e)
		}
		g.Crash(keeps)
		if _, again, e := journal.Open(d); e != api.OK || !slices.Equal(texts(again), texts(l)) {
			t.Errorf("%s, %d bytes kept, the power gone at act %d of Open: %s, %d; want %s", what, keep, fuse, show(texts(again)), e, show(texts(l)))
		}
	}
}

// P8.6: short frames, with each number of unsafe bytes staying, at every act.
func TestCrashEveryByte(t *testing.T) {
	lay := func(l ...string) []step {
		s := []step{}
		for _, p := range l {
			s = append(s, step{payload: p})
		}
		return s
	}
	sync := step{}
	keep := func(n int) step { return step{keep: true, n: n} }
	for _, files := range [][]api.File{nil, {seg(0, framesOf("x", "yy"))}, {seg(0, nil)}, {seg(0, framesOf("x")), seg(1, nil), seg(2, framesOf("yy"))}} {
		for _, steps := range [][]step{
			nil,
			lay("ab"),
			lay("ab", "c", "def"),
			append(lay("ab"), sync, sync),
			append(append(lay("ab"), sync), lay("c", "def")...),
			append(append(append(lay("ab"), sync), lay("c", "def")...), sync, step{payload: "g"}),
			append(lay("ab", "c", "def"), keep(1), sync),
			append(lay("ab", "c", "def"), sync, keep(2), step{payload: "g"}, sync, keep(0)),
			append(lay("ab", "c"), keep(0), step{payload: "d"}, keep(1), keep(0), step{payload: "e"}, step{payload: "f"}),
			append(lay("ab", "c"), keep(9), keep(-1), keep(2), sync, step{payload: "d"}),
		} {
			wantCrashes(t, safe(files), steps, 1)
		}
	}
}

// P8.6: frames that go into the next segments, and are taken away over several of them.
func TestCrashSegments(t *testing.T) {
	big, half := strings.Repeat("b", 65000), strings.Repeat("h", 33000)
	steps := []step{{payload: "a"}, {payload: big}, {payload: half}, {payload: half + "2"}, {}, {payload: big + "2"}, {payload: "c"}, {keep: true, n: 6}, {payload: "d"}, {keep: true, n: 1}, {payload: big + "3"}, {payload: "e"}, {}, {payload: "f"}, {keep: true, n: 0}, {payload: "g"}}
	wantCrashes(t, nil, steps, 20011)
	wantCrashes(t, safe([]api.File{seg(0, framesOf("x", big)), seg(1, framesOf("y"))}), steps, 20011)
	for n := range 7 {
		wantCrashes(t, nil, append(slices.Clone(steps[:7]), step{keep: true, n: n}, step{payload: "z"}, step{}), 30011)
	}
}

// P8.6: any steps; and what is opened behind a crash is told more, and crashes again.
func TestCrashWords(t *testing.T) {
	r := chance()
	for range 50 {
		files := []api.File{}
		for range 5 {
			steps := someSteps(r)
			d, h, hoped := run(t, safe(files), steps, r.IntN(2*len(steps)+2)-1)
			keep := []int{}
			for range h.Files() {
				keep = append(keep, r.IntN(1<<20))
			}
			_, g := h.Copy()
			wantHoped(t, g, hoped, unsafe(h), fmt.Sprint(steps))
			h.Crash(keep)
			_, l, e := journal.Open(d)
			if e != api.OK || !hoped.fits(texts(l)) {
				t.Fatalf("%v: %s, %d; hoped for %d of %s", steps, show(texts(l)), e, hoped.sure, show(hoped.payloads))
			}
			files = h.Files()
		}
	}
}

// someSteps tells some steps.
func someSteps(r *rand.Rand) []step {
	steps := []step{}
	for range 1 + r.IntN(12) {
		switch r.IntN(8) {
		case 0:
			steps = append(steps, step{keep: true, n: r.IntN(9) - 1})
		case 1, 2:
			steps = append(steps, step{})
		default:
			n := one(r, 1, 1+r.IntN(30), 1+r.IntN(3000), 1+r.IntN(40000), 65520, 65521)
			steps = append(steps, step{payload: string(someBytes(r, n))})
		}
	}
	return steps
}

// P8.7: Open of a disk on which a journal was opened tells the same, and does one Sync; none, if there is no segment.
func TestAgain(t *testing.T) {
	for i, files := range [][]api.File{
		nil,
		{{Name: "x", Bytes: []byte{1}}},
		{seg(0, nil)},
		{seg(1, framesOf("a"))},
		{seg(0, framesOf("a", "b"))},
		{seg(0, append(framesOf("a", "b"), 1, 2, 3))},
		{seg(0, framesOf("a")), seg(1, append(framesOf("b"), 1)), seg(2, framesOf("c"))},
		{seg(0, []byte{1}), seg(1, framesOf("c"))},
		{seg(0, framesOf("a")), seg(2, framesOf("c")), seg(9, nil)},
	} {
		d, h := disk.Lay(0, files)
		_, l, e := journal.Open(d)
		if e != api.OK {
			t.Errorf("%d: %d", i, e)
		}
		want := 0
		for _, f := range h.Files() {
			if f.Name != "x" {
				want = 1
			}
		}
		for range 3 {
			acts, before := h.Acts(), h.Files()
			j, again, e := journal.Open(d)
			if e != api.OK || !slices.Equal(texts(again), texts(l)) || j.Len() != len(l) || h.Acts()-acts != want || !sameFiles(h.Files(), before) {
				t.Errorf("%d: opened again: %s, %d, %d acts; want %s, %d acts", i, show(texts(again)), e, h.Acts()-acts, show(texts(l)), want)
			}
		}
	}
}

// P8.7: where all bytes are safe, a power cut at any act of Open, and one more at any act of the next, change nothing of what is told.
func TestAgainBehindCuts(t *testing.T) {
	for i, files := range [][]api.File{
		{seg(0, append(framesOf("a", "b"), 1, 2, 3))},
		{seg(0, framesOf("a")), seg(1, append(framesOf("b"), 1)), seg(2, framesOf("c")), seg(3, framesOf("d")), seg(5, framesOf("e"))},
		{seg(0, []byte{1}), seg(1, framesOf("c")), seg(2, framesOf("d"))},
		{seg(1, framesOf("c")), seg(2, framesOf("d")), seg(255, nil)},
		{seg(0, append(framesOf("a"), frameOf("b")[:17]...)), seg(1, frameOf("c"))},
	} {
		d, h := disk.Lay(0, safe(files))
		_, want, _ := journal.Open(d)
		acts := h.Acts()
		for first := range acts + 1 {
			for second := range acts + 1 {
				d, h := disk.Lay(0, safe(files))
				for _, fuse := range []int{first, second} {
					h.Fuse(fuse)
					journal.Open(d)
					h.Crash(nil)
				}
				if j, l, e := journal.Open(d); e != api.OK || !slices.Equal(texts(l), texts(want)) || j.Len() != len(want) {
					t.Errorf("%d, power cuts at %d and %d: %s, %d; want %s", i, first, second, show(texts(l)), e, show(texts(want)))
				}
			}
		}
	}
}
