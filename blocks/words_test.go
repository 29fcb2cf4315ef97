package blocks_test

import (
	"bytes"
	"crypto/sha256"
	"encoding/binary"
	"fmt"
	"math/rand/v2"
	"slices"
	"strings"

	"pleach/api"
	"pleach/disk"
	"pleach/journal"
)

// What the chapter's words say of a store, told in another way than the package does: frames and acts by hand, and a model that keeps its blocks as texts, looks each up by going through all, and tells a journal of its own what the words say.

// hashOf tells a block's hash.
func hashOf(b string) api.Hash { return sha256.Sum256([]byte(b)) }

// frameOf tells the frame of a block.
func frameOf(b string) []byte {
	n := uint32(len(b))
	f := binary.LittleEndian.AppendUint32(nil, n)
	f = binary.LittleEndian.AppendUint32(f, 1<<32-1-n)
	sum := sha256.Sum256([]byte(b))
	return append(append(f, sum[:8]...), b...)
}

// framesOf tells the frames of blocks, one behind the other.
func framesOf(l ...string) []byte {
	b := []byte{}
	for _, p := range l {
		b = append(b, frameOf(p)...)
	}
	return b
}

// segmentName tells a segment's name.
func segmentName(k int) string { return fmt.Sprintf("j%04d", k) }

// seg tells a segment of which nothing is safe.
func seg(k int, b []byte) api.File { return api.File{Name: segmentName(k), Bytes: b} }

// safe tells files all of whose bytes are safe.
func safe(files []api.File) []api.File {
	l := slices.Clone(files)
	for i := range l {
		l[i].Safe = len(l[i].Bytes)
	}
	return l
}

// act is an act of a disk.
type act struct {
	kind, name string
	b          []byte
	n          int
}

func appends(k int, b string) act { return act{kind: "Append", name: segmentName(k), b: frameOf(b)} }
func syncs(k int) act             { return act{kind: "Sync", name: segmentName(k)} }
func cuts(k, n int) act           { return act{kind: "Cut", name: segmentName(k), n: n} }
func drops(k int) act             { return act{kind: "Drop", name: segmentName(k)} }

func (a act) String() string {
	return fmt.Sprintf("%s of %s (%d bytes, %d)", a.kind, a.name, len(a.b), a.n)
}

// does does acts, up to the first one that is refused.
func does(d *disk.Disk, acts ...act) {
	for _, a := range acts {
		var e api.Errno
		switch a.kind {
		case "Append":
			e = d.Append(a.name, a.b)
		case "Sync":
			e = d.Sync(a.name)
		case "Cut":
			e = d.Cut(a.name, a.n)
		case "Drop":
			e = d.Drop(a.name)
		}
		if e != api.OK {
			return
		}
	}
}

// model is a store.
type model struct {
	j    *journal.Journal
	rows []string
	dead bool
}

// modelOpen tells the model of what is on a disk; nil, if it is refused.
func modelOpen(d *disk.Disk) (*model, api.Errno) {
	j, l, e := journal.Open(d)
	if e != api.OK {
		return nil, e
	}
	m := &model{j: j}
	for i, b := range l {
		if slices.Contains(m.rows, string(b)) {
			if e := j.Keep(i); e != api.OK {
				return nil, e
			}
			return m, api.OK
		}
		m.rows = append(m.rows, string(b))
	}
	return m, api.OK
}

// hears tells the journal's answer; ErrPower is the store's death.
func (m *model) hears(e api.Errno) api.Errno {
	m.dead = m.dead || e == api.ErrPower
	return e
}

func (m *model) put(b string) (api.Hash, api.Errno) {
	if m.dead {
		return api.Hash{}, api.ErrPower
	}
	if slices.Contains(m.rows, b) {
		return hashOf(b), api.OK
	}
	if e := m.hears(m.j.Append([]byte(b))); e != api.OK {
		return api.Hash{}, e
	}
	m.rows = append(m.rows, b)
	return hashOf(b), api.OK
}

func (m *model) sync() api.Errno {
	if m.dead {
		return api.ErrPower
	}
	return m.hears(m.j.Sync())
}

func (m *model) cut(n int) api.Errno {
	if m.dead {
		return api.ErrPower
	}
	if n < 0 || n > len(m.rows) {
		return api.ErrRange
	}
	e := m.hears(m.j.Keep(n))
	if e == api.OK {
		m.rows = slices.Clone(m.rows[:n])
	}
	return e
}

// chance makes numbers that are the same at each run.
func chance() *rand.Rand { return rand.New(rand.NewPCG(9, 4)) }

func one[T any](r *rand.Rand, l ...T) T { return l[r.IntN(len(l))] }

// someText tells a text of so many bytes, whichever.
func someText(r *rand.Rand, n int) string {
	b := make([]byte, n)
	for i := range b {
		b[i] = byte(r.Uint32())
	}
	return string(b)
}

// manyFiles tells so many empty files that are no segments.
func manyFiles(n int) []api.File {
	l := []api.File{}
	for i := range n {
		l = append(l, api.File{Name: fmt.Sprint("other", i)})
	}
	return l
}

// show tells rows for a failure's message, long ones by their lengths.
func show(l []string) string {
	s := []string{}
	for _, x := range l {
		if len(x) > 8 {
			s = append(s, fmt.Sprintf("%q..(%d bytes)", x[:4], len(x)))
		} else {
			s = append(s, fmt.Sprintf("%q", x))
		}
	}
	if len(s) > 12 {
		s = append(s[:12], fmt.Sprintf("..(%d rows)", len(l)))
	}
	return "[" + strings.Join(s, " ") + "]"
}

// showFiles tells what a disk has for a failure's message.
func showFiles(l []api.File) string {
	s := []string{}
	for _, f := range l {
		s = append(s, fmt.Sprintf("%s: %d bytes, %d safe", f.Name, len(f.Bytes), f.Safe))
	}
	if len(s) > 12 {
		s = append(s[:12], fmt.Sprintf("..(%d files)", len(l)))
	}
	return "[" + strings.Join(s, "; ") + "]"
}

// sameFiles tells whether two disks have the same files.
func sameFiles(a, b []api.File) bool {
	return slices.EqualFunc(a, b, func(x, y api.File) bool {
		return x.Name == y.Name && x.Safe == y.Safe && bytes.Equal(x.Bytes, y.Bytes)
	})
}
