package replica_test

import (
	"bytes"
	"fmt"
	"math/rand/v2"
	"slices"
	"testing"

	"pleach/api"
	"pleach/disk"
	"pleach/mesh"
	"pleach/replica"
)

// lie is what a digest says of more than it has.
type lie func(b []byte)

func truth([]byte) {}

// ofAll says that all is there.
func ofAll(b []byte) { copy(b, slices.Repeat([]byte{255}, len(b))) }

// ofSome says of some others that they are there.
func ofSome(r *rand.Rand) lie {
	return func(b []byte) {
		for i := range b {
			b[i] |= byte(r.Uint32()) | byte(r.Uint32())&byte(r.Uint32())
		}
	}
}

// round lets two tick for one another, and delivers all that is under way between them, in any order, until nothing is.
func round(t *testing.T, r *rand.Rand, l [2]*replica.Replica, lies lie) {
	t.Helper()
	under := [][]byte{}
	for i, x := range l {
		_, _, m := read(t, must2(t, func() ([]byte, api.Errno) { return x.Tick(2 - i) }))
		lies(m.Bloom)
		under = append(under, letter(i+1, 2-i, m))
	}
	for len(under) > 0 {
		i := r.IntN(len(under))
		b := under[i]
		under = slices.Delete(under, i, i+1)
		out, _ := deliver(t, l[b[5]-1], b)
		under = append(under, out...)
	}
}

// union tells U of W4: the least set that has all that either of two holds, and each transaction waiting at one of them whose parents are all in it and whose clock fits theirs; and how many transactions the longest way of parents has that goes through such of it alone as not both hold.
func union(pool []string, l [2]*replica.Replica) (all []string, long int) {
	in, deep, clock := map[api.Hash]bool{}, map[api.Hash]int{}, map[api.Hash]int{}
	is := func(x []api.Hash, b string) bool { return slices.Contains(x, hashOf(b)) }
	held1, _ := l[0].Held()
	held2, _ := l[1].Held()
	wait1, _ := l[0].Waiting()
	wait2, _ := l[1].Waiting()
	for _, b := range pool { // parents ahead
		n, fits := nodeOf(b), 1
		whole := true
		for _, h := range n.Parents {
			whole = whole && in[h]
			fits = max(fits, clock[h]+1)
		}
		if !whole || n.Clock != fits || !is(held1, b) && !is(held2, b) && !is(wait1, b) && !is(wait2, b) {
			continue
		}
		h := hashOf(b)
		all, in[h], clock[h] = append(all, b), true, n.Clock
		if is(held1, b) && is(held2, b) {
			continue
		}
		deep[h] = 1
		for _, p := range n.Parents {
			if deep[p] > 0 {
				deep[h] = max(deep[h], deep[p]+1)
			}
		}
		long = max(long, deep[h])
	}
	return all, long
}

// W4: two replicas that do rounds hold the same behind no more than 2 L + 2 of them, whatever the digests lie about.
func TestCatchingUp(t *testing.T) {
	r := chance()
	waited, longest := 0, 0
	for range 60 {
		pool := []string{}
		wide := one(r, 1, 2, 4, 20)
		for i := range 10 + r.IntN(45) {
			parents := []string{}
			for range one(r, 0, 1, 1, 1, 1, 1, 1, 1, 2) {
				if i > 0 {
					parents = append(parents, pool[max(0, i-1-r.IntN(wide))])
				}
			}
			slices.Sort(parents)
			pool = append(pool, made(fmt.Sprint(i, r.Uint32()), slices.Compact(parents)...))
			if len(parents) > 0 && r.IntN(15) == 0 {
				pool[i] = misfit(1, pool[i])
			}
		}
		l := [2]*replica.Replica{}
		for i := range l {
			d, _ := disk.New(1 << 20)
			l[i] = open(t, d, i+1)
			deliver(t, l[i], letter(8, i+1, blocksMsg(mixed(r, pool)[:1+r.IntN(len(pool))]...)))
		}
		all, long := union(pool, l)
		lies := one(r, truth, ofAll, ofSome(r))
		waited, longest = waited+len(must2(t, l[0].Waiting)), max(longest, long)
		for range 2*long + 2 {
			round(t, r, l, lies)
		}
		for _, x := range l {
			wantHeld(t, fmt.Sprint("behind rounds ", 2*long+2), x, all...)
		}
	}
	if waited < 100 || longest < 15 {
		t.Errorf("%d waited, the longest way had %d", waited, longest)
	}
}

// W4: natural lies: a replica that lacks most of many catches up by ticks alone, whose salts are other ones each time.
func TestCatchingUpMany(t *testing.T) {
	r := chance()
	l := chain(700)
	d, _ := onDisk(l[:660]...)
	e, _ := onDisk(l...)
	two := [2]*replica.Replica{open(t, d), open(t, e, 2)}
	rounds := 0
	for ; len(must2(t, two[0].Held)) < 700; rounds++ {
		round(t, r, two, truth)
	}
	if rounds > 82 {
		t.Errorf("%d rounds", rounds)
	}
	wantHeld(t, "caught up", two[0], l...)
}

// net is replicas with a mesh between them.
type net struct {
	t    *testing.T
	r    *rand.Rand
	m    *mesh.Mesh
	l    []*replica.Replica
	all  map[api.Hash]bool // what was committed, or merged
	made []api.Hash        // heads ahead of the last commit
}

// commits lets one commit, and asks that its parents are the heads that it had.
func (n *net) commits() {
	n.t.Helper()
	x := one(n.r, n.l...)
	n.made = must2(n.t, x.Heads)
	var id api.Hash
	if len(n.made) > 1 && n.r.IntN(3) == 0 {
		id = must2(n.t, x.Merge)
	} else {
		id = commit(n.t, x, add("s", fmt.Sprint(n.r.Uint32())), put("k", fmt.Sprint(n.r.Uint32())), incr("n", 1), insert("l", "i"))
	}
	if got := nodeAt(n.t, x, id); !slices.Equal(got.Parents, n.made) {
		n.t.Fatalf("parents %s; want %s", show(got.Parents), show(n.made))
	}
	if heads := must2(n.t, x.Heads); !slices.Contains(heads, id) {
		n.t.Fatalf("heads %s", show(heads))
	}
	n.all[id] = true
}

// befalls lets something befall a link.
func (n *net) befalls(from, to int) {
	i, j := n.r.IntN(5), n.r.IntN(5)
	switch n.r.IntN(12) {
	case 0:
		n.m.Drop(from, to, i)
	case 1:
		n.m.Twice(from, to, i)
	case 2, 3:
		n.m.Swap(from, to, i, j)
	case 4:
		n.m.Flip(from, to, i, n.r.IntN(1<<20), byte(1+n.r.IntN(255)))
	case 5:
		n.m.Clip(from, to, i, n.r.IntN(1<<20))
	}
}

// link tells two unlike replicas.
func (n *net) link() (from, to int) {
	from = n.r.IntN(len(n.l))
	to = (from + 1 + n.r.IntN(len(n.l)-1)) % len(n.l)
	return from + 1, to + 1
}

// carries takes a message off a link, delivers it, and sends what is said to it.
func (n *net) carries(from, to int) bool {
	n.t.Helper()
	b, err := n.m.Take(from, to)
	if err != nil {
		return false
	}
	out, _, _ := n.l[to-1].Deliver(b)
	for _, b := range out {
		n.m.Send(to, from, b)
	}
	return true
}

// W2, W3, W7: over a network that loses, doubles, turns round, spoils and cuts short, what replicas hold was committed or merged by one of them, and is closed; in the end, when it does so no more, they hold the same, and show the same.
func TestBadNetwork(t *testing.T) {
	r := chance()
	for range 8 {
		n := &net{t: t, r: r, all: map[api.Hash]bool{}}
		n.m, _ = mesh.New(3)
		for author := 1; author <= 3; author++ {
			d, _ := disk.New(1 << 24)
			n.l = append(n.l, open(t, d, author))
		}
		for range 300 {
			from, to := n.link()
			switch n.r.IntN(10) {
			case 0:
				n.commits()
			case 1, 2:
				n.m.Send(from, to, must2(t, func() ([]byte, api.Errno) { return n.l[from-1].Tick(to) }))
			case 3, 4, 5:
				n.befalls(from, to)
			default:
				n.carries(from, to)
			}
			wantNothingElse(t, n)
		}
		for i := 0; i < 400 && !agreed(t, n.l); i++ {
			from, to := n.link()
			n.m.Send(from, to, must2(t, func() ([]byte, api.Errno) { return n.l[from-1].Tick(to) }))
			for n.carries(from, to) || n.carries(to, from) {
			}
		}
		if !agreed(t, n.l) || len(must2(t, n.l[0].Held)) != len(n.all) {
			t.Fatalf("%d were committed; %s are held", len(n.all), show(must2(t, n.l[0].Held)))
		}
		for _, x := range n.l[1:] {
			if lookShown(x) != lookShown(n.l[0]) {
				t.Error("who holds the same shows another thing")
			}
		}
	}
}

// agreed tells whether all hold the same.
func agreed(t *testing.T, l []*replica.Replica) bool {
	t.Helper()
	for _, x := range l[1:] {
		if !slices.Equal(must2(t, x.Held), must2(t, l[0].Held)) {
			return false
		}
	}
	return true
}

// wantNothingElse fails, if a replica holds, or has waiting, what nobody has committed, or if what it holds isn't closed.
func wantNothingElse(t *testing.T, n *net) {
	t.Helper()
	for _, x := range n.l {
		held := must2(t, x.Held)
		for i, h := range held {
			if !n.all[h] {
				t.Fatalf("%x comes from nowhere", h)
			}
			for _, p := range nodeAt(t, x, h).Parents {
				if !slices.Contains(held[:i], p) {
					t.Fatalf("%x lacks a parent", h)
				}
			}
		}
		for _, h := range must2(t, x.Waiting) {
			if !n.all[h] {
				t.Fatalf("%x comes from nowhere", h)
			}
		}
	}
}

// W3: replicas that took the same in other orders, by other ways, tell the same of all.
func TestSameShown(t *testing.T) {
	r := chance()
	for range 6 {
		pool := somePool(r, 30)
		first, _ := with(t)
		for _, b := range pool {
			first.Deliver(blocksTo(1, b))
		}
		row := must2(t, first.Export)
		want := lookShown(first)
		for range 3 {
			d, _ := disk.New(1 << 20)
			x := open(t, d)
			for _, b := range mixed(r, pool) {
				x.Deliver(blocksTo(1, b))
			}
			x.Import(row)
			if lookShown(x) != want || !bytes.Equal(must2(t, x.Export), row) {
				t.Fatal("who holds the same shows another thing")
			}
			if lookShown(open(t, d)) != want {
				t.Fatal("opened again it shows another thing")
			}
		}
	}
}
