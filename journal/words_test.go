package journal_test

import (
	"bytes"
	"crypto/sha256"
	"encoding/binary"
	"fmt"
	"math/rand/v2"
	"slices"
	"strings"

	"pleach/api"
	"pleach/disk"
)

// What the chapter's words say of a journal, told in another way than the package does: a model that keeps, of each segment, its payloads, and does its acts on a disk of its own.

// frameOf tells the frame of a payload.
func frameOf(payload string) []byte {
	n := uint32(len(payload))
	b := binary.LittleEndian.AppendUint32(nil, n)
	b = binary.LittleEndian.AppendUint32(b, 1<<32-1-n)
	sum := sha256.Sum256([]byte(payload))
	return append(append(b, sum[:8]...), payload...)
}

// framesOf tells the frames of payloads, one behind the other.
func framesOf(payloads ...string) []byte {
	b := []byte{}
	for _, p := range payloads {
		b = append(b, frameOf(p)...)
	}
	return b
}

// segmentName tells a segment's name.
func segmentName(k int) string { return fmt.Sprintf("j%04d", k) }

// payloadsOf tells the payloads of a segment's right frames, and its tear; below 0: it has none.
func payloadsOf(b []byte) (payloads []string, tear int) {
	at := 0
	for at < len(b) {
		rest := b[at:]
		if len(rest) < 16 {
			return payloads, at
		}
		n := int(binary.LittleEndian.Uint32(rest))
		if n == 0 || n >= 1048577 || len(rest) < 16+n || !bytes.HasPrefix(rest, frameOf(string(rest[16:16+n]))) {
			return payloads, at
		}
		payloads = append(payloads, string(rest[16:16+n]))
		at += 16 + n
	}
	return payloads, -1
}

// act is an act of a disk.
type act struct {
	kind, name string
	b          []byte
	n          int
}

func appends(k int, b []byte) act { return act{kind: "Append", name: segmentName(k), b: b} }
func syncs(k int) act             { return act{kind: "Sync", name: segmentName(k)} }
func cuts(k, n int) act           { return act{kind: "Cut", name: segmentName(k), n: n} }
func drops(k int) act             { return act{kind: "Drop", name: segmentName(k)} }

func (a act) String() string {
	return fmt.Sprintf("%s of %s (%d bytes, %d)", a.kind, a.name, len(a.b), a.n)
}

// does does acts, up to the first one that is refused, and tells what was answered last.
func does(d *disk.Disk, acts ...act) api.Errno {
	for _, a := range acts {
		var e api.Errno
		switch a.kind {
		case "Append":
			e = d.Append(a.name, a.b)
		case "Sync":
			e = d.Sync(a.name)
		case "Cut":
			e = d.Cut(a.name, a.n)
		case "Drop":
			e = d.Drop(a.name)
		}
		if e != api.OK {
			return e
		}
	}
	return api.OK
}

// model is a journal: the payloads of each of its segments.
type model struct {
	d          *disk.Disk
	segments   [][]string
	laid, dead bool
}

// modelOpen tells the model of what is on a disk; nil, if it is refused.
func modelOpen(d *disk.Disk, h *disk.Hand) (*model, []string, api.Errno) {
	if h.Out() {
		return nil, nil, api.ErrPower
	}
	files := map[string][]byte{}
	for _, f := range h.Files() {
		files[f.Name] = f.Bytes
	}
	m := &model{d: d}
	tear := -1
	for tear < 0 && len(m.segments) < 256 {
		b, is := files[segmentName(len(m.segments))]
		if !is {
			break
		}
		var l []string
		l, tear = payloadsOf(b)
		m.segments = append(m.segments, l)
	}
	acts := []act{}
	for k := 255; k >= len(m.segments); k-- {
		if _, is := files[segmentName(k)]; is {
			acts = append(acts, drops(k))
		}
	}
	if tear >= 0 {
		acts = append(acts, cuts(len(m.segments)-1, tear))
	}
	if len(m.segments) > 0 {
		acts = append(acts, syncs(len(m.segments)-1))
	}
	if e := does(d, acts...); e != api.OK {
		return nil, nil, e
	}
	return m, m.payloads(), api.OK
}

func (m *model) payloads() []string { return slices.Concat(m.segments...) }

func (m *model) does(acts ...act) api.Errno {
	e := does(m.d, acts...)
	m.dead = m.dead || e == api.ErrPower
	return e
}

func (m *model) append(b []byte) api.Errno {
	if m.dead {
		return api.ErrPower
	}
	if len(b) < 1 {
		return api.ErrArg
	}
	if len(b) >= 1048577 {
		return api.ErrBytes
	}
	k := len(m.segments) - 1
	if k < 0 {
		k = 0
	} else if has := len(framesOf(m.segments[k]...)); has != 0 && has+16+len(b) >= 65537 {
		if k == 255 {
			return api.ErrRoom
		}
		if e := m.does(syncs(k)); e != api.OK {
			return e
		}
		k++
	}
	e := m.does(appends(k, frameOf(string(b))))
	if e == api.ErrMany || e == api.ErrRoom {
		return api.ErrRoom
	}
	if e != api.OK {
		return e
	}
	if k == len(m.segments) {
		m.segments = append(m.segments, nil)
	}
	m.segments[k] = append(m.segments[k], string(b))
	m.laid = true
	return api.OK
}

func (m *model) sync() api.Errno {
	if m.dead {
		return api.ErrPower
	}
	if !m.laid {
		return api.OK
	}
	e := m.does(syncs(len(m.segments) - 1))
	m.laid = e != api.OK
	return e
}

func (m *model) keep(n int) api.Errno {
	if m.dead {
		return api.ErrPower
	}
	if n < 0 || n > m.len() {
		return api.ErrRange
	}
	if n == m.len() {
		return api.OK
	}
	s, left := 0, n
	for left >= len(m.segments[s]) {
		left -= len(m.segments[s])
		s++
	}
	acts := []act{}
	for k := len(m.segments) - 1; k > s; k-- {
		acts = append(acts, drops(k))
	}
	acts = append(acts, cuts(s, len(framesOf(m.segments[s][:left]...))))
	if e := m.does(acts...); e != api.OK {
		return e
	}
	m.segments = m.segments[:s+1]
	m.segments[s] = m.segments[s][:left]
	return api.OK
}

func (m *model) len() int { return len(m.payloads()) }

// chance makes numbers that are the same at each run.
func chance() *rand.Rand { return rand.New(rand.NewPCG(1, 2)) }

func one[T any](r *rand.Rand, l ...T) T { return l[r.IntN(len(l))] }

// someBytes tells so many bytes.
func someBytes(r *rand.Rand, n int) []byte {
	b := make([]byte, n)
	for i := range b {
		b[i] = byte(r.Uint32())
	}
	return b
}

// texts tells rows of bytes as texts.
func texts(l [][]byte) []string {
	s := []string{}
	for _, b := range l {
		s = append(s, string(b))
	}
	return s
}

// show tells rows for a failure's message, long ones by their lengths.
func show(l []string) string {
	s := []string{}
	for _, x := range l {
		if len(x) > 8 {
			s = append(s, fmt.Sprintf("%q..(%d bytes)", x[:4], len(x)))
		} else {
			s = append(s, fmt.Sprintf("%q", x))
		}
	}
	if len(s) > 12 {
		s = append(s[:12], fmt.Sprintf("..(%d rows)", len(l)))
	}
	return "[" + strings.Join(s, " ") + "]"
}

// showFiles tells what a disk has for a failure's message.
func showFiles(l []api.File) string {
	s := []string{}
	for _, f := range l {
		s = append(s, fmt.Sprintf("%s: %d bytes, %d safe", f.Name, len(f.Bytes), f.Safe))
	}
	if len(s) > 12 {
		s = append(s[:12], fmt.Sprintf("..(%d files)", len(l)))
	}
	return "[" + strings.Join(s, "; ") + "]"
}

// sameFiles tells whether two disks have the same files.
func sameFiles(a, b []api.File) bool {
	return slices.EqualFunc(a, b, func(x, y api.File) bool {
		return x.Name == y.Name && x.Safe == y.Safe && bytes.Equal(x.Bytes, y.Bytes)
	})
}
