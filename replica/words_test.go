package replica_test

import (
	"bytes"
	"crypto/hmac"
	"crypto/sha256"
	"encoding/binary"
	"fmt"
	"math/rand/v2"
	"slices"
	"testing"

	"pleach/api"
	"pleach/disk"
	"pleach/msg"
	"pleach/node"
	"pleach/replica"
)

// What stands on a disk and goes between replicas, told by hand: blocks as texts, frames, acts, and messages under seals that the library makes.

// key7 tells the key of the chapter's examples.
func key7() []byte { return bytes.Repeat([]byte{7}, 32) }

// hashOf tells a block's hash.
func hashOf(b string) api.Hash { return sha256.Sum256([]byte(b)) }

// hashesOf tells the hashes of blocks.
func hashesOf(l []string) []api.Hash {
	out := []api.Hash{}
	for _, b := range l {
		out = append(out, hashOf(b))
	}
	return out
}

// compare tells which of two hashes stands ahead.
func compare(a, b api.Hash) int { return bytes.Compare(a[:], b[:]) }

// rising tells hashes rising, each once.
func rising(l []api.Hash) []api.Hash {
	out := slices.Clone(l)
	slices.SortFunc(out, compare)
	return slices.Compact(out)
}

// nodeOf tells the transaction of a block.
func nodeOf(b string) api.Node {
	n, err := node.Decode([]byte(b))
	if err != nil {
		panic(err)
	}
	return n
}

// blockOf tells the block of a transaction.
func blockOf(n api.Node) string {
	b, e := node.Encode(n)
	if e != api.OK {
		panic(e)
	}
	return string(b)
}

// child tells the block of a transaction of an author, with these blocks as parents, and a clock that fits them.
func child(author int, l []api.Op, parents ...string) string {
	n := api.Node{Author: author, Clock: 1, Parents: rising(hashesOf(parents)), Ops: l}
	for _, b := range parents {
		n.Clock = max(n.Clock, nodeOf(b).Clock+1)
	}
	return blockOf(n)
}

// made tells the block of a transaction of author 8 with a mark of its own, and these blocks as parents.
func made(mark string, parents ...string) string {
	return child(8, []api.Op{{Kind: api.OpPut, Key: "k", Text: mark}}, parents...)
}

// misfit tells one whose clock is too great by so much.
func misfit(by int, b string) string {
	n := nodeOf(b)
	n.Clock += by
	return blockOf(n)
}

// wide tells so many blocks without parents.
func wide(n int) []string {
	l := []string{}
	for i := range n {
		l = append(l, made(fmt.Sprint("wide ", i)))
	}
	return l
}

// sorted tells blocks in the one order: again and again, of all that aren't placed and whose parents are, the one of the least hash. What lacks a parent isn't told.
func sorted(l ...string) []string {
	byHash, left := map[api.Hash]string{}, []api.Hash{}
	parents, placed := map[api.Hash][]api.Hash{}, map[api.Hash]bool{}
	for _, b := range l {
		h := hashOf(b)
		byHash[h], parents[h] = b, nodeOf(b).Parents
		left = append(left, h)
	}
	left = rising(left)
	out := []string{}
	for {
		i := slices.IndexFunc(left, func(h api.Hash) bool {
			return !slices.ContainsFunc(parents[h], func(p api.Hash) bool { return !placed[p] })
		})
		if i < 0 {
			return out
		}
		placed[left[i]] = true
		out = append(out, byHash[left[i]])
		left = slices.Delete(left, i, i+1)
	}
}

// headsOf tells those of some blocks that none of them names, rising.
func headsOf(l ...string) []api.Hash {
	named := map[api.Hash]bool{}
	for _, b := range l {
		for _, h := range nodeOf(b).Parents {
			named[h] = true
		}
	}
	return rising(slices.DeleteFunc(hashesOf(l), func(h api.Hash) bool { return named[h] }))
}

// frameOf tells the frame of a block.
func frameOf(b string) []byte {
	n := uint32(len(b))
	f := binary.LittleEndian.AppendUint32(nil, n)
	f = binary.LittleEndian.AppendUint32(f, 1<<32-1-n)
	sum := sha256.Sum256([]byte(b))
	return append(append(f, sum[:8]...), b...)
}

// framesOf tells the frames of blocks, one behind the other.
func framesOf(l ...string) []byte {
	b := []byte{}
	for _, p := range l {
		b = append(b, frameOf(p)...)
	}
	return b
}

// seg tells a segment, all of whose bytes are safe.
func seg(k int, b []byte) api.File {
	return api.File{Name: fmt.Sprintf("j%04d", k), Bytes: b, Safe: len(b)}
}

// onDisk tells a disk with room whose journal has these blocks, in one segment.
func onDisk(l ...string) (*disk.Disk, *disk.Hand) {
	if len(l) == 0 {
		return disk.New(1 << 24)
	}
	return disk.Lay(1<<24, []api.File{seg(0, framesOf(l...))})
}

// act is an act of a disk.
type act struct {
	kind, name string
	b          []byte
	n          int
}

func appends(k int, b string) act { return act{kind: "Append", name: seg(k, nil).Name, b: frameOf(b)} }
func syncs(k int) act             { return act{kind: "Sync", name: seg(k, nil).Name} }
func cuts(k, n int) act           { return act{kind: "Cut", name: seg(k, nil).Name, n: n} }
func drops(k int) act             { return act{kind: "Drop", name: seg(k, nil).Name} }

func (a act) String() string {
	return fmt.Sprintf("%s of %s (%d bytes, %d)", a.kind, a.name, len(a.b), a.n)
}

// does does acts, up to the first one that is refused.
func does(d *disk.Disk, acts ...act) {
	for _, a := range acts {
		var e api.Errno
		switch a.kind {
		case "Append":
			e = d.Append(a.name, a.b)
		case "Sync":
			e = d.Sync(a.name)
		case "Cut":
			e = d.Cut(a.name, a.n)
		case "Drop":
			e = d.Drop(a.name)
		}
		if e != api.OK {
			return
		}
	}
}

// sameFiles tells whether two disks have the same files.
func sameFiles(a, b []api.File) bool {
	return slices.EqualFunc(a, b, func(x, y api.File) bool {
		return x.Name == y.Name && x.Safe == y.Safe && bytes.Equal(x.Bytes, y.Bytes)
	})
}

// showFiles tells what a disk has for a failure's message.
func showFiles(l []api.File) string {
	s := ""
	for _, f := range l {
		s += fmt.Sprintf("%s: %d bytes, %d safe; ", f.Name, len(f.Bytes), f.Safe)
	}
	return s
}

// sealed tells a body under a seal.
func sealed(key []byte, from, to int, body []byte) []byte {
	b := append([]byte("PLE1"), byte(from), byte(to))
	b = append(binary.LittleEndian.AppendUint32(b, uint32(len(body))), body...)
	sum := hmac.New(sha256.New, key)
	sum.Write(b)
	return sum.Sum(b)
}

// letter tells a message from one replica to another, under the seal of key7.
func letter(from, to int, m api.Message) []byte {
	body, e := msg.Encode(m)
	if e != api.OK {
		panic(e)
	}
	return sealed(key7(), from, to, body)
}

// blocksTo tells a message of blocks of replica 8 to another one.
func blocksTo(to int, l ...string) []byte {
	m := api.Message{Kind: api.MsgBlocks}
	for _, b := range l {
		m.Blocks = append(m.Blocks, []byte(b))
	}
	return letter(8, to, m)
}

// read tells what stands under a seal of key7, from whom and to whom.
func read(t *testing.T, b []byte) (from, to int, m api.Message) {
	t.Helper()
	if len(b) < 42 {
		t.Fatalf("a message of %d bytes", len(b))
	}
	from, to = int(b[4]), int(b[5])
	body := b[10 : len(b)-32]
	if !bytes.Equal(b, sealed(key7(), from, to, body)) {
		t.Fatalf("not under the seal: %x", b)
	}
	m, err := msg.Decode(body)
	if err != nil {
		t.Fatalf("no message: %v", err)
	}
	return from, to, m
}

// open opens replica 1, or another one, on a disk.
func open(t *testing.T, d *disk.Disk, author ...int) *replica.Replica {
	t.Helper()
	r, e := replica.Open(d, append(author, 1)[0], key7())
	if r == nil || e != api.OK {
		t.Fatalf("Open: %v, %d", r, e)
	}
	return r
}

// with opens replica 1 on a disk whose journal has these blocks, which are a closed set.
func with(t *testing.T, l ...string) (*replica.Replica, *disk.Hand) {
	t.Helper()
	d, h := onDisk(l...)
	r := open(t, d)
	wantHeld(t, "opened", r, l...)
	return r, h
}

// commit commits operations.
func commit(t *testing.T, x teller, l ...api.Op) api.Hash {
	t.Helper()
	begin(t, x, l...)
	h, e := x.Commit()
	wantE(t, "Commit", e, api.OK)
	return h
}

// begin begins a transaction of operations.
func begin(t *testing.T, x teller, l ...api.Op) {
	t.Helper()
	wantE(t, "Begin", x.Begin(), api.OK)
	for _, o := range l {
		wantE(t, fmt.Sprintf("Do(%.60v)", o), x.Do(o), api.OK)
	}
}

// deliver delivers a message that has to be taken as one.
func deliver(t *testing.T, x teller, b []byte) ([][]byte, api.Taken) {
	t.Helper()
	out, taken, e := x.Deliver(b)
	wantE(t, "Deliver", e, api.OK)
	return out, taken
}

// wantE fails, if another error was told.
func wantE(t *testing.T, what string, e, want api.Errno) {
	t.Helper()
	if e != want {
		t.Fatalf("%s: %d; want %d", what, e, want)
	}
}

// must tells what a call has answered beside OK.
func must[T any](t *testing.T, x T, e api.Errno) T {
	t.Helper()
	wantE(t, "a call", e, api.OK)
	return x
}

// wantHeld fails, if a replica doesn't hold just these blocks.
func wantHeld(t *testing.T, what string, x teller, l ...string) {
	t.Helper()
	held, e := x.Held()
	if want := hashesOf(sorted(l...)); e != api.OK || !slices.Equal(held, want) || len(want) != len(l) {
		t.Fatalf("%s: held %s, %d; want %s", what, show(held), e, show(want))
	}
	heads, e := x.Heads()
	if e != api.OK || !slices.Equal(heads, headsOf(l...)) {
		t.Fatalf("%s: heads %s, %d; want %s", what, show(heads), e, show(headsOf(l...)))
	}
	for _, b := range l {
		if got, e := x.Block(hashOf(b)); e != api.OK || string(got) != b {
			t.Fatalf("%s: Block: %d bytes, %d", what, len(got), e)
		}
	}
}

// wantWaiting fails, if others than these blocks wait, the oldest first.
func wantWaiting(t *testing.T, what string, x teller, l ...string) {
	t.Helper()
	if got, e := x.Waiting(); e != api.OK || !slices.Equal(got, hashesOf(l)) {
		t.Fatalf("%s: waiting %s, %d; want %s", what, show(got), e, show(hashesOf(l)))
	}
}

// wantTaken fails, if another thing came of what was handed in.
func wantTaken(t *testing.T, what string, got api.Taken, ids []string, lost ...string) {
	t.Helper()
	if got.How != api.HowNone || !slices.Equal(got.IDs, hashesOf(ids)) || !slices.Equal(got.Lost, hashesOf(lost)) {
		t.Fatalf("%s: How %d, IDs %s, Lost %s; want IDs %s, Lost %s", what, got.How, show(got.IDs), show(got.Lost), show(hashesOf(ids)), show(hashesOf(lost)))
	}
}

// wantActs fails, if a call does others than these acts: the power goes at each of them in turn, and at none, and then the disk has to be as if they had been done by hand. The call has to be refused with ErrPower when the power goes; made makes a disk on which nothing has been done, and the call.
func wantActs(t *testing.T, what string, made func() (*disk.Disk, *disk.Hand, func() api.Errno), acts ...act) {
	t.Helper()
	for fuse := range len(acts) + 1 {
		_, h, call := made()
		d2, h2 := h.Copy()
		h.Fuse(fuse)
		h2.Fuse(fuse)
		e := call()
		does(d2, acts...)
		if h.Acts() != h2.Acts() || !sameFiles(h.Files(), h2.Files()) || (e == api.ErrPower) != (fuse < len(acts)) {
			t.Fatalf("%s, the power going at act %d: %d, %d acts, %s; want %d acts, %s: %v", what, fuse, e, h.Acts(), showFiles(h.Files()), h2.Acts(), showFiles(h2.Files()), acts)
		}
	}
}

// wantDone is wantActs of a call of replica 1, opened on a disk of some room whose journal has these blocks.
func wantDone(t *testing.T, what string, room int, l []string, call func(r *replica.Replica) api.Errno, acts ...act) {
	t.Helper()
	wantActs(t, what, func() (*disk.Disk, *disk.Hand, func() api.Errno) {
		d, h := disk.Lay(room, journalOf(l...))
		r := open(t, d)
		return d, h, func() api.Errno { return call(r) }
	}, acts...)
}

// journalOf tells the segments of a journal to which these blocks were laid, one behind the other, all of them safe.
func journalOf(l ...string) []api.File {
	files := []api.File{}
	for _, b := range l {
		f := frameOf(b)
		if n := len(files); n > 0 && (len(files[n-1].Bytes) == 0 || len(files[n-1].Bytes)+len(f) <= 65536) {
			files[n-1] = seg(n-1, append(files[n-1].Bytes, f...))
			continue
		}
		files = append(files, seg(len(files), f))
	}
	return files
}

// look tells all that a replica tells but for single keys, and whether a transaction is open.
func look(x teller) string {
	heads, e1 := x.Heads()
	held, e2 := x.Held()
	waiting, e3 := x.Waiting()
	cells, e4 := x.Cells()
	row, e5 := x.Export()
	return tell(heads, e1, held, e2, waiting, e3, cells, e4, sha256.Sum256(row), e5)
}

// lookAll tells all that a replica tells, of these keys, too.
func lookAll(x teller, keys ...string) string {
	out := look(x)
	heads, _ := x.Heads()
	held, _ := x.Held()
	for _, h := range held {
		b, e := x.Block(h)
		out += tell(b, e)
	}
	root, e := x.Root()
	out += tell(root, e)
	for _, key := range keys {
		l1, e1 := x.Register(key)
		l2, e2 := x.Members(key)
		n, e3 := x.Count(key)
		l4, e4 := x.Items(key)
		out += tell(l1, e1, l2, e2, n, e3, l4, e4)
		for kind := 0; kind < 6; kind++ {
			w, e5 := x.Find(kind, key)
			c, e6 := x.At(heads, kind, key)
			out += tell(w, e5, c, e6)
		}
	}
	return out
}

// tell tells what was answered as a text.
func tell(l ...any) string {
	out := ""
	for _, x := range l {
		s := fmt.Sprintf("%x", x)
		if len(s) > 4000 {
			s = fmt.Sprintf("%s.. (%x)", s[:100], sha256.Sum256([]byte(s)))
		}
		out += s + "; "
	}
	return out
}

// show tells hashes for a failure's message, by their first bytes.
func show(l []api.Hash) string {
	s := fmt.Sprintf("%d:", len(l))
	for i, h := range l {
		if i == 20 {
			return s + " .."
		}
		s += fmt.Sprintf(" %x", h[:3])
	}
	return s
}

// chance makes numbers that are the same at each run.
func chance() *rand.Rand { return rand.New(rand.NewPCG(22, 7)) }

func one[T any](r *rand.Rand, l ...T) T { return l[r.IntN(len(l))] }

// mixed tells a list in another order.
func mixed[T any](r *rand.Rand, l []T) []T {
	l = slices.Clone(l)
	r.Shuffle(len(l), func(i, j int) { l[i], l[j] = l[j], l[i] })
	return l
}

// put, add, incr, insert, remove tell operations.
func put(key, text string) api.Op { return api.Op{Kind: api.OpPut, Key: key, Text: text} }
func add(key, text string) api.Op { return api.Op{Kind: api.OpAdd, Key: key, Text: text} }
func incr(key string, n int64) api.Op {
	return api.Op{Kind: api.OpIncr, Key: key, N: n}
}
func insert(key, text string, at ...api.Ident) api.Op {
	return api.Op{Kind: api.OpInsert, Key: key, Text: text, At: append(at, api.Ident{})[0]}
}
