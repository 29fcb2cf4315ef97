package replica_test

import (
	"fmt"
	"runtime"
	"slices"
	"sync"
	"sync/atomic"
	"testing"

	"pleach/api"
	"pleach/disk"
	"pleach/replica"
)

// atOnce runs work so many times at one time, and waits for all of them.
func atOnce(n int, work func(i int)) {
	var all sync.WaitGroup
	begin := make(chan struct{})
	for i := range n {
		all.Add(1)
		go func() {
			defer all.Done()
			<-begin
			work(i)
		}()
	}
	close(begin)
	all.Wait()
}

// salt tells the salt of a hello.
func salt(t *testing.T, b []byte) int {
	_, _, m := read(t, b)
	return int(m.Salt)
}

// Calls at one time: ticks, each of which counts once.
func TestTickAtOnce(t *testing.T) {
	r, _ := with(t)
	said := make([][][]byte, 8)
	atOnce(8, func(i int) {
		for range 400 {
			b, _ := r.Tick(2 + i%7)
			said[i] = append(said[i], b)
		}
	})
	salts := []int{}
	for _, l := range said {
		last := 0
		for _, b := range l {
			n := salt(t, b)
			if n <= last {
				t.Fatalf("salt %d behind %d", n, last)
			}
			last = n
			salts = append(salts, n)
		}
	}
	slices.Sort(salts)
	for i, n := range salts {
		if n != i+1 {
			t.Fatalf("salt number %d is %d", i, n)
		}
	}
}

// Calls at one time: operations of one transaction, each of which stands in it once; of one goroutine in their order.
func TestDoAtOnce(t *testing.T) {
	r, _ := with(t)
	for range 3 {
		begin(t, r)
		var done, many atomic.Int64
		atOnce(8, func(i int) {
			for k := range 140 {
				switch r.Do(incr(fmt.Sprint(i), int64(k))) {
				case api.OK:
					done.Add(1)
				case api.ErrMany:
					many.Add(1)
				}
			}
		})
		n := nodeAt(t, r, must2(t, r.Commit))
		if done.Load() != api.MaxOps || many.Load() != 8*140-api.MaxOps || len(n.Ops) != api.MaxOps {
			t.Fatalf("%d were done, %d refused, %d are there", done.Load(), many.Load(), len(n.Ops))
		}
		next := map[string]int64{}
		for _, o := range n.Ops {
			if o.N != next[o.Key] {
				t.Fatalf("%s: %d; want %d", o.Key, o.N, next[o.Key])
			}
			next[o.Key]++
		}
	}
}

// Calls at one time: Begin, of which one alone is OK, till that one has committed, or let it go.
func TestCommitAtOnce(t *testing.T) {
	r, h := with(t)
	var wrong atomic.Int64
	atOnce(8, func(i int) {
		for n := 0; n < 30; {
			if r.Begin() != api.OK {
				runtime.Gosched()
				continue
			}
			e1, e2 := r.Do(incr("n", 1)), r.Do(add("who", fmt.Sprint(i)))
			_, e3 := r.Commit()
			if e1 != api.OK || e2 != api.OK || e3 != api.OK {
				wrong.Add(1)
			}
			n++
		}
	})
	l := blocksOf(t, r)
	if wrong.Load() != 0 || len(l) != 240 || len(must2(t, r.Heads)) != 1 || h.Acts() != 480 {
		t.Fatalf("%d went wrong, %d are held, %d acts", wrong.Load(), len(l), h.Acts())
	}
	for i, b := range l {
		if n := nodeOf(b); n.Clock != i+1 || len(n.Ops) != 2 {
			t.Fatalf("number %d: %v", i, n)
		}
	}
	if n := must2(t, func() (int64, api.Errno) { return r.Count("n") }); n != 240 {
		t.Errorf("n is %d", n)
	}
	if !sameFiles(h.Files(), journalOf(l...)) {
		t.Errorf("on the disk: %s", showFiles(h.Files()))
	}
}

// Calls at one time: merges of the same heads, of which one alone is OK.
func TestMergeAtOnce(t *testing.T) {
	for range 20 {
		r, _ := with(t, wide(2)...)
		var done, refused atomic.Int64
		atOnce(8, func(int) {
			switch _, e := r.Merge(); e {
			case api.OK:
				done.Add(1)
			case api.ErrHeads:
				refused.Add(1)
			}
		})
		if n := len(must2(t, r.Held)); done.Load() != 1 || refused.Load() != 7 || n != 3 {
			t.Fatalf("%d are done, %d refused, %d held", done.Load(), refused.Load(), n)
		}
	}
}

// chain tells so many blocks, some parents of others, parents ahead.
func chain(n int) []string {
	l := []string{}
	for i := range n {
		parents := []string{}
		if i > 0 {
			parents = append(parents, l[i-1])
		}
		if i > 9 && i%3 == 0 {
			parents = append(parents, l[i-7])
		}
		l = append(l, made(fmt.Sprint(i), parents...))
	}
	return l
}

// Calls at one time: the same blocks and arks, taken in by several: each is told as taken once, and lies on the disk once.
func TestTakeAtOnce(t *testing.T) {
	l := chain(240)
	ark := must2(t, func() ([]byte, api.Errno) { r, _ := with(t, l...); return r.Export() })
	for range 3 {
		r, h := with(t)
		ids := make([][]api.Hash, 8)
		atOnce(8, func(i int) {
			for k := 0; k < 240; k += 10 {
				if i == 7 && k == 100 {
					taken, _ := r.Import(ark)
					ids[i] = append(ids[i], taken.IDs...)
				}
				_, taken, _ := r.Deliver(blocksTo(1, l[k:k+10]...))
				ids[i] = append(ids[i], taken.IDs...)
			}
		})
		all := slices.Concat(ids...)
		if len(all) != 240 || len(rising(all)) != 240 {
			t.Fatalf("%d were taken, %d of them unlike", len(all), len(rising(all)))
		}
		wantHeld(t, "at once", r, l...)
		_, g := h.Copy()
		g.Crash(nil)
		n := 0
		for _, f := range g.Files() {
			n += len(f.Bytes)
		}
		if n != len(framesOf(l...)) {
			t.Errorf("%d bytes on the disk; want %d", n, len(framesOf(l...)))
		}
	}
}

// Calls at one time: what is read while transactions are taken is what some history showed, each time no older a one.
func TestReadAtOnce(t *testing.T) {
	r, _ := with(t)
	var wrong atomic.Int64
	var done atomic.Bool
	atOnce(8, func(i int) {
		if i == 0 {
			for k := range 60 {
				r.Begin()
				r.Do(incr("n", 1))
				r.Do(incr("m", -1))
				r.Do(insert("l", fmt.Sprint(k)))
				r.Commit()
			}
			done.Store(true)
			return
		}
		last := int64(0)
		for !done.Load() {
			n, e := r.Count("n")
			held, e1 := r.Held()
			cells, e2 := r.Cells()
			heads, e3 := r.Heads()
			items, e4 := r.Items("l")
			_, e5 := r.At(heads, api.CellCounter, "n")
			_, e6 := r.Root()
			_, e7 := r.Export()
			if n < last || int64(len(held)) < n || int64(len(items)) < n || len(heads) > 1 || e+e1+e2+e3+e4+e5+e6+e7 != api.OK || !evenly(cells) {
				wrong.Add(1)
			}
			last = n
		}
	})
	if wrong.Load() != 0 {
		t.Errorf("%d answers were wrong", wrong.Load())
	}
}

// evenly tells whether the counters n and m of some cells have come as far: each transaction counts both.
func evenly(l []api.Cell) bool {
	if len(l) == 0 {
		return true
	}
	m, n := -1, -2
	for _, c := range l {
		switch c.Key {
		case "m":
			m = int(c.Value[0]) + 1 // that of -x is 2x - 1, of x 2x
		case "n":
			n = int(c.Value[0])
		}
	}
	return m == n
}

// Calls at one time: whatever is called, what is held in the end is what was told to be taken, and lies on the disk.
func TestAllAtOnce(t *testing.T) {
	l := chain(80)
	d, h := onDisk(l[:10]...)
	r := open(t, d)
	ark := must2(t, r.Export)
	ids := make([][]api.Hash, 8)
	atOnce(8, func(i int) {
		for k := range 30 {
			if r.Begin() == api.OK {
				r.Do(put("a", fmt.Sprint(i, k)))
				if id, e := r.Commit(); e == api.OK {
					ids[i] = append(ids[i], id)
				}
			}
			if id, e := r.Merge(); e == api.OK {
				ids[i] = append(ids[i], id)
			}
			_, taken, _ := r.Deliver(blocksTo(1, l[k:k+5]...))
			ids[i] = append(ids[i], taken.IDs...)
			r.Import(ark)
			b, _ := r.Tick(2)
			r.Deliver(b)
			r.Deliver(letter(5, 1, helloMsg(l[:k], nil)))
			r.Register("a")
			r.Waiting()
			r.Abort()
			r.Find(api.CellRegister, "a")
			r.Block(hashOf(l[k]))
		}
	})
	held := must2(t, r.Held)
	taken := slices.Concat(append(ids, hashesOf(l[:10]))...)
	if !slices.Equal(rising(held), rising(taken)) || len(held) != len(taken) {
		t.Errorf("%d are held, %d were told to be taken", len(held), len(taken))
	}
	was := blocksOf(t, r)
	h.Crash(nil)
	wantHeld(t, "opened again", open(t, d), was...)
}

// Calls at one time: when the power goes, nobody who was told so is told otherwise later, and what was told to be taken is there when it comes again.
func TestPowerAtOnce(t *testing.T) {
	for fuse := range 24 {
		d, h := disk.New(1 << 20)
		r := open(t, d)
		h.Fuse(fuse)
		var wrong atomic.Int64
		ids := make([][]api.Hash, 4)
		atOnce(4, func(i int) {
			gone := false
			for k := range 40 {
				b := made(fmt.Sprint(i, " ", k))
				_, taken, e := r.Deliver(blocksTo(1, b))
				ids[i] = append(ids[i], taken.IDs...)
				_, e2 := r.Heads()
				if gone && (e != api.ErrPower || e2 != api.ErrPower) || e == api.ErrPower && e2 != api.ErrPower {
					wrong.Add(1)
				}
				gone = e2 == api.ErrPower
			}
		})
		if wrong.Load() != 0 || h.Acts() != fuse+1 {
			t.Fatalf("the power going at act %d: %d answers were wrong, %d acts", fuse, wrong.Load(), h.Acts())
		}
		h.Crash(nil)
		held := must2(t, open(t, d).Held)
		if all := slices.Concat(ids...); !slices.Equal(held, rising(all)) || len(all) != fuse/2 {
			t.Fatalf("the power gone at act %d: %d are held, %d were told to be taken", fuse, len(held), len(all))
		}
	}
}

// Replicas that are opened at one time, each on a disk of its own, have nothing to do with one another.
func TestOpenAtOnce(t *testing.T) {
	var wrong atomic.Int64
	atOnce(8, func(i int) {
		d, _ := onDisk(made(fmt.Sprint(i)))
		r, e := replica.Open(d, i+1, key7())
		if e != api.OK {
			wrong.Add(1)
			return
		}
		if held, e := r.Held(); e != api.OK || !slices.Equal(held, hashesOf([]string{made(fmt.Sprint(i))})) {
			wrong.Add(1)
		}
	})
	if wrong.Load() != 0 {
		t.Errorf("%d went wrong", wrong.Load())
	}
}
