package cluster_test

import (
	"bytes"
	"crypto/sha256"
	"fmt"
	"math/rand/v2"
	"slices"
	"testing"

	"pleach/api"
	"pleach/cluster"
	"pleach/msg"
	"pleach/node"
	"pleach/session"
	"pleach/shelf"
)

// What steps are, and what transactions and messages are, told by hand.

// roomy is a room in which no test here is refused.
const roomy = 1 << 24

// key7 tells the key of the chapter's examples.
func key7() []byte { return bytes.Repeat([]byte{7}, 32) }

// made makes a cluster of so many replicas, with that room, or with much.
func made(t *testing.T, n int, room ...int) *cluster.Cluster {
	t.Helper()
	c, e := cluster.New(n, append(room, roomy)[0], key7())
	if c == nil || e != api.OK {
		t.Fatalf("New(%d): %v, %d", n, c, e)
	}
	return c
}

// of tells a step of a kind that has no other fields.
func of(kind, who int) api.Step { return api.Step{Kind: kind, Who: who} }

// under tells a step of a kind that has a key.
func under(kind, who int, key string) api.Step { return api.Step{Kind: kind, Who: who, Key: key} }

// link tells a step on a link, with I, J and N, as many as are told.
func link(kind, who, to int, l ...int) api.Step {
	l = append(l, 0, 0, 0)
	return api.Step{Kind: kind, Who: who, To: to, I: l[0], J: l[1], N: l[2]}
}

// tick and deliver tell steps.
func tick(who, to int) api.Step    { return link(api.StepTick, who, to) }
func deliver(who, to int) api.Step { return link(api.StepDeliver, who, to) }

// does tells a step that does an operation.
func does(who int, o api.Op) api.Step { return api.Step{Kind: api.StepDo, Who: who, Op: o} }

// doesAt tells one that does it at the item of that number.
func doesAt(who, i int, o api.Op) api.Step {
	return api.Step{Kind: api.StepDo, Who: who, Op: o, J: 1, I: i}
}

// commits tells the steps of a commit.
func commits(who int, l ...api.Op) []api.Step {
	out := []api.Step{of(api.StepBegin, who)}
	for _, o := range l {
		out = append(out, does(who, o))
	}
	return append(out, of(api.StepCommit, who))
}

// fuse, crash, export, load and take tell steps.
func fuse(who, n int) api.Step { return api.Step{Kind: api.StepFuse, Who: who, N: n} }
func crash(who int, keep ...int) api.Step {
	return api.Step{Kind: api.StepCrash, Who: who, Keep: keep}
}
func export(who, slot int) api.Step { return api.Step{Kind: api.StepExport, Who: who, I: slot} }
func load(who, slot int) api.Step   { return api.Step{Kind: api.StepImport, Who: who, I: slot} }
func take(who int, b []byte) api.Step {
	return api.Step{Kind: api.StepImport, Who: who, J: 1, Bytes: b}
}

// errs tells the answer of a step that is refused, or that tells nothing.
func errs(e api.Errno) api.Answer { return api.Answer{E: e} }

// list tells the answer that has hashes, or none.
func list(l ...api.Hash) api.Answer { return api.Answer{List: l} }

// number tells the answer that has a number.
func number(n int64) api.Answer { return api.Answer{N: n} }

// wants fails, if a step isn't answered by just that: lists without elements are one.
func wants(t *testing.T, c *cluster.Cluster, s api.Step, want api.Answer) {
	t.Helper()
	if got := c.Do(s); tell(got) != tell(want) {
		t.Fatalf("%s: %s; want %s", show(s), tell(got), tell(want))
	}
}

// wantsE fails, if one of some steps isn't refused with that error, or answers something beside it.
func wantsE(t *testing.T, c *cluster.Cluster, e api.Errno, l ...api.Step) {
	t.Helper()
	for _, s := range l {
		wants(t, c, s, errs(e))
	}
}

// do does steps none of which may be refused, and tells the last one's answer.
func do(t *testing.T, c *cluster.Cluster, l ...api.Step) (a api.Answer) {
	t.Helper()
	for _, s := range l {
		if a = c.Do(s); a.E != api.OK {
			t.Fatalf("%s: %d", show(s), a.E)
		}
	}
	return a
}

// commit commits operations, and tells the block: that is asked to be a child of these.
func commit(t *testing.T, c *cluster.Cluster, who int, l []api.Op, parents ...string) string {
	t.Helper()
	b := child(who, l, parents...)
	steps := commits(who, l...)
	do(t, c, steps[:len(steps)-1]...)
	wants(t, c, of(api.StepCommit, who), api.Answer{Hash: hashOf(b)})
	return b
}

// holds fails, if a replica doesn't hold just these blocks.
func holds(t *testing.T, c *cluster.Cluster, who int, l ...string) {
	t.Helper()
	wants(t, c, of(api.StepHeld, who), list(hashesOf(sorted(l...))...))
}

// show tells a step for a failure's message.
func show(s api.Step) string {
	o := s.Op
	return fmt.Sprintf("kind %d, who %d, to %d, I %d, J %d, N %d, key %.40q, op (%d, %.40q, %.40q, %d, %x %d), %d heads, keep %d, %d bytes", s.Kind, s.Who, s.To, s.I, s.J, s.N, s.Key, o.Kind, o.Key, o.Text, o.N, o.At.Node[:3], o.At.Op, len(s.Heads), s.Keep, len(s.Bytes))
}

// tell tells an answer as a text, whole: the same of a list without elements, be it nil or not.
func tell(a api.Answer) string {
	s := fmt.Sprintf("E %d, N %d, Hash %x, List %x, Texts %x, Items %x, Cells %x, Bytes %x", int(a.E), a.N, a.Hash, a.List, a.Texts, a.Items, a.Cells, a.Bytes)
	if len(s) > 8000 {
		return fmt.Sprintf("%s .. (%x)", s[:400], sha256.Sum256([]byte(s)))
	}
	return s
}

// tellAll tells answers as texts.
func tellAll(l []api.Answer) []string {
	out := []string{}
	for _, a := range l {
		out = append(out, tell(a))
	}
	return out
}

// hashOf tells a block's hash.
func hashOf(b string) api.Hash { return sha256.Sum256([]byte(b)) }

// hashesOf tells the hashes of blocks.
func hashesOf(l []string) []api.Hash {
	out := []api.Hash{}
	for _, b := range l {
		out = append(out, hashOf(b))
	}
	return out
}

// compare tells which of two hashes stands ahead.
func compare(a, b api.Hash) int { return bytes.Compare(a[:], b[:]) }

// rising tells hashes rising, each once.
func rising(l []api.Hash) []api.Hash {
	out := slices.Clone(l)
	slices.SortFunc(out, compare)
	return slices.Compact(out)
}

// nodeOf tells the transaction of a block.
func nodeOf(b string) api.Node {
	n, err := node.Decode([]byte(b))
	if err != nil {
		panic(err)
	}
	return n
}

// child tells the block of a transaction of an author, with these blocks as parents, and a clock that fits them.
func child(author int, l []api.Op, parents ...string) string {
	n := api.Node{Author: author, Clock: 1, Parents: rising(hashesOf(parents)), Ops: l}
	for _, b := range parents {
		n.Clock = max(n.Clock, nodeOf(b).Clock+1)
	}
	b, e := node.Encode(n)
	if e != api.OK {
		panic(e)
	}
	return string(b)
}

// sorted tells blocks in the one order: again and again, of all that aren't placed and whose parents are, the one of the least hash. What lacks a parent isn't told.
func sorted(l ...string) []string {
	byHash, left := map[api.Hash]string{}, []api.Hash{}
	parents, placed := map[api.Hash][]api.Hash{}, map[api.Hash]bool{}
	for _, b := range l {
		h := hashOf(b)
		byHash[h], parents[h] = b, nodeOf(b).Parents
		left = append(left, h)
	}
	left = rising(left)
	out := []string{}
	for {
		i := slices.IndexFunc(left, func(h api.Hash) bool {
			return !slices.ContainsFunc(parents[h], func(p api.Hash) bool { return !placed[p] })
		})
		if i < 0 {
			return out
		}
		placed[left[i]] = true
		out = append(out, byHash[left[i]])
		left = slices.Delete(left, i, i+1)
	}
}

// headsOf tells those of some blocks that none of them names, rising.
func headsOf(l ...string) []api.Hash {
	named := map[api.Hash]bool{}
	for _, b := range l {
		for _, h := range nodeOf(b).Parents {
			named[h] = true
		}
	}
	return rising(slices.DeleteFunc(hashesOf(l), func(h api.Hash) bool { return named[h] }))
}

// shelved tells a shelf that holds blocks.
func shelved(l ...string) *shelf.Shelf {
	s := shelf.New(nil)
	for _, b := range sorted(l...) {
		if _, err := s.Take([]byte(b)); err != nil {
			panic(err)
		}
	}
	return s
}

// arkOf tells the ark of blocks.
func arkOf(l ...string) []byte {
	b := append([]byte("PLEACHA1"), numberOf(len(l))...)
	for _, x := range sorted(l...) {
		b = append(append(b, numberOf(len(x))...), x...)
	}
	sum := sha256.Sum256(b)
	return append(b, sum[:]...)
}

// numberOf tells a number's bytes, seven bits each, the lowest first.
func numberOf(n int) []byte {
	b := []byte{}
	for ; n > 127; n >>= 7 {
		b = append(b, byte(n)|128)
	}
	return append(b, byte(n))
}

// helloSize tells how many bytes the hello of one has that holds these blocks, the tick's seal counted.
func helloSize(ticks uint64, l ...string) int64 {
	b, e := msg.Encode(session.Hello(shelved(l...), ticks))
	if e != api.OK {
		panic(e)
	}
	return int64(len(b) + 42)
}

// frameSize tells how many bytes a block has on a disk.
func frameSize(b string) int64 { return int64(len(b) + 16) }

// chance makes numbers that are the same at each run.
func chance() *rand.Rand { return rand.New(rand.NewPCG(23, 7)) }

// one tells one of some things.
func one[T any](r *rand.Rand, l ...T) T { return l[r.IntN(len(l))] }

// put, add, incr and insert tell operations.
func put(key, text string) api.Op { return api.Op{Kind: api.OpPut, Key: key, Text: text} }
func add(key, text string) api.Op { return api.Op{Kind: api.OpAdd, Key: key, Text: text} }
func incr(key string, n int64) api.Op {
	return api.Op{Kind: api.OpIncr, Key: key, N: n}
}
func insert(key, text string, at ...api.Ident) api.Op {
	return api.Op{Kind: api.OpInsert, Key: key, Text: text, At: append(at, api.Ident{})[0]}
}
