package ark_test

import (
	"fmt"
	"math/rand/v2"
	"slices"
	"testing"

	"pleach/api"
	"pleach/ark"
	"pleach/blocks"
	"pleach/disk"
	"pleach/shelf"
)

// refuser is a keeper that keeps all but some blocks, of which it answers that.
type refuser map[string]api.Errno

func (k refuser) Keep(b []byte) api.Errno { return k[string(b)] }

// over tells a shelf over a keeper that was handed these blocks.
func over(k shelf.Keeper, l ...string) *shelf.Shelf {
	s := shelf.New(k)
	for _, b := range l {
		s.Take([]byte(b))
	}
	return s
}

// wantLoad fails, if Load of an ark of these blocks answers otherwise; How is none, whatever comes of it.
func wantLoad(t *testing.T, what string, s *shelf.Shelf, l []string, err error, ids []string, lost ...string) {
	t.Helper()
	got, e := ark.Load(s, []byte(arkOf(l...)))
	want := api.Taken{IDs: hashesOf(ids), Lost: hashesOf(lost)}
	if e != err || !sameTaken(got, want) {
		t.Errorf("%s: Load: %s; want %s", what, showTaken(got, e), showTaken(want, err))
	}
}

// wantAll fails, if a shelf holds others than these, or others wait, the oldest first.
func wantAll(t *testing.T, what string, s *shelf.Shelf, held []string, waiting ...string) {
	t.Helper()
	if !slices.Equal(s.Order(), hashesOf(sorted(held...))) || s.Len() != len(held) {
		t.Errorf("%s: %d are held: %s; want %s", what, s.Len(), show(s.Order()), show(hashesOf(sorted(held...))))
	}
	if !slices.Equal(s.Waiting(), hashesOf(waiting)) {
		t.Errorf("%s: waiting: %s; want %s", what, show(s.Waiting()), show(hashesOf(waiting)))
	}
}

// P13.3: into an empty shelf all are taken, in the one order; again, none; an ark of nothing takes none.
func TestLoad(t *testing.T) {
	l := sorted(a, b, c, a2, a3, f)
	s := shelf.New(nil)
	wantLoad(t, "of nothing", s, nil, nil, nil)
	wantAll(t, "of nothing", s, nil)
	wantLoad(t, "of some", s, l, nil, l)
	wantAll(t, "of some", s, l)
	wantLoad(t, "again", s, l, nil, nil)
	wantLoad(t, "of fewer", s, sorted(a, a2, b), nil, nil)
	wantAll(t, "again", s, l)
	wantArk(t, "loaded", s, l...)
}

// P13.3: into a shelf that holds some of it, and others, the rest is taken; the others stay.
func TestLoadMore(t *testing.T) {
	l := sorted(a, b, c, a2, f)
	for _, held := range [][]string{{a}, {a, b}, {a2}, {a2, a3}, {a3, bare}, {a, b, c, a2}, {a, a3, made("y", 2, a3)}} {
		s := with(held...)
		rest := slices.DeleteFunc(slices.Clone(l), func(x string) bool { return slices.Contains(held, x) })
		wantLoad(t, "into some", s, l, nil, rest)
		wantAll(t, "into some", s, slices.Concat(held, rest))
		wantLoad(t, "into some, again", s, l, nil, nil)
	}
}

// P13.3: where some wait, followers are taken with what they waited for, and told behind it; those that are in the ark themselves are known then.
func TestLoadFollowers(t *testing.T) {
	y, z := made("y", 2, a), made("z", 3, a2, b)
	s := with(y, z, c, f, made("w", 2, gone))
	l := []string{a, b, c}
	wantLoad(t, "with followers", s, l, nil, []string{a, y, b, c})
	wantAll(t, "with followers", s, []string{a, y, b, c}, z, f, made("w", 2, gone))
	wantLoad(t, "with more", s, sorted(a, a2), nil, []string{a2, z, f})
	wantAll(t, "with more", s, []string{a, a2, b, c, f, y, z}, made("w", 2, gone))

	s = with(c, b)
	wantLoad(t, "all but the first wait", s, l, nil, []string{a, b, c})
	s = with(f, a2)
	wantLoad(t, "the last waits", s, l, nil, []string{a, b, c, f})
}

// P13.3: those that are lost are told, of all Takes one behind the other; what is lost may be taken later by the same Load.
func TestLoadLost(t *testing.T) {
	d, e, g := made("d", 3, a), made("e", 9, a), made("g", 5, b)
	s := with(d, g, c, e)
	wantLoad(t, "clocks that don't fit", s, []string{a, b, c}, nil, []string{a, b, c}, d, e, g)
	wantAll(t, "clocks that don't fit", s, []string{a, b, c})

	k := &once{row: b}
	s = over(k, b)
	wantLoad(t, "refused once", s, []string{a, b, c}, nil, []string{a, b, c}, b)
	wantAll(t, "refused once", s, []string{a, b, c})

	s = over(refuser{d: api.ErrRoom, made("n", 2, a): api.ErrRoom}, made("n", 2, a), c)
	wantLoad(t, "a follower that isn't kept", s, []string{a, b, c}, nil, []string{a, b, c}, made("n", 2, a))
}

// once is a keeper that refuses one block the first time.
type once struct {
	row   string
	asked bool
}

func (k *once) Keep(b []byte) api.Errno {
	if string(b) == k.row && !k.asked {
		k.asked = true
		return api.ErrRoom
	}
	return api.OK
}

// P13.3: a keeper that refuses a block in the middle ends it there: its number is told, itself, with all that was taken ahead of it, which stays held; what comes behind it isn't asked for.
func TestLoadRefused(t *testing.T) {
	l := sorted(a, b, c, a2, f)
	for _, e := range []api.Errno{api.ErrRoom, api.ErrMany, api.ErrClock, api.ErrPower, api.ErrArg, 77, -3} {
		for i, x := range l {
			s := over(refuser{x: e})
			wantLoad(t, fmt.Sprint("refused at ", i), s, l, e, l[:i])
			wantAll(t, fmt.Sprint("refused at ", i), s, l[:i])
			if e == api.ErrPower {
				wantLoad(t, "dead", s, l, e, nil)
			} else {
				wantLoad(t, "refused again", s, l, e, nil)
			}
			wantAll(t, "refused again", s, l[:i])
		}
	}
	y, d := made("y", 2, a), made("d", 3, a)
	s := over(refuser{b: api.ErrRoom}, y, d, made("w", 2, gone))
	wantLoad(t, "with followers", s, []string{a, b, c}, api.ErrRoom, []string{a, y}, d)
	wantAll(t, "with followers", s, []string{a, y}, made("w", 2, gone))
}

// P13.3: when the power goes at a follower, what its Take held isn't told, though it stays held.
func TestLoadPower(t *testing.T) {
	y := made("y", 3, b)
	s := over(refuser{y: api.ErrPower}, y)
	wantLoad(t, "at a follower", s, []string{a, b, c}, api.ErrPower, []string{a})
	wantAll(t, "at a follower", s, []string{a, b}, y)
	wantLoad(t, "dead", s, []string{a, b, c}, api.ErrPower, nil)
	wantLoad(t, "dead, but nothing is taken", s, nil, nil, nil)
	wantAll(t, "dead", s, []string{a, b}, y)
	if _, err := ark.Load(s, []byte(arkOf()+"x")); *err.(*api.Bad) != (api.Bad{Why: api.ErrRest, At: 41}) {
		t.Errorf("dead, and no ark: %v", err)
	}
}

// P13.3: a store of layer 9 as the keeper, whose room ends, and whose power goes.
func TestLoadStore(t *testing.T) {
	l := []string{a, b, c}
	dk, _ := disk.New(2*16 + len(a) + len(b) + len(c)) // a frame has sixteen bytes more than its block
	store, _ := blocks.Open(dk)
	s := shelf.New(store)
	wantLoad(t, "no room", s, l, api.ErrRoom, l[:2])
	wantAll(t, "no room", s, l[:2])
	if store.Len() != 2 {
		t.Errorf("%d blocks are kept", store.Len())
	}

	dk, hand := disk.New(1 << 16)
	store, _ = blocks.Open(dk)
	s = shelf.New(store)
	wantLoad(t, "one", s, l[:1], nil, l[:1])
	hand.Fuse(1) // the power goes at the second act from here on
	wantLoad(t, "no power", s, l, api.ErrPower, l[1:2])
	wantAll(t, "no power", s, l[:2])
	wantLoad(t, "no power still", s, l, api.ErrPower, nil)
}

// P13.3: Load of what is no ark changes nothing, whatever the shelf has, and asks no keeper.
func TestLoadNoArk(t *testing.T) {
	good := arkOf(a, b, c)
	for _, row := range []string{"", good[:len(good)-1], good + "\x00", good[:60] + string([]byte{good[60] ^ 1}) + good[61:], arkOf(b, a), arkOf(a, a), arkOf(a, b, c, made("x", 9, c)), arkOf(a, b, c, made("x", 2, gone))} {
		want, bad := unpackOf(row)
		if bad == nil {
			t.Fatalf("%d blocks", len(want))
		}
		k := &counter{}
		for _, l := range [][]string{nil, {a}, {a, b, a2}, {c, f, b}} {
			s := over(k, l...)
			was, asked := look(s), k.n
			got, err := ark.Load(s, []byte(row))
			if !sameTaken(got, api.Taken{}) || *err.(*api.Bad) != *bad {
				t.Errorf("Load: %s; want %v", showTaken(got, err), bad)
			}
			if look(s) != was || k.n != asked {
				t.Error("Load of what is no ark has changed something")
			}
		}
	}
}

// counter is a keeper that counts.
type counter struct{ n int }

func (k *counter) Keep([]byte) api.Errno {
	k.n++
	return api.OK
}

// script is a keeper that answers one thing behind the other, then OK.
type script struct {
	answers []api.Errno
	asked   []string
}

func (k *script) Keep(b []byte) api.Errno {
	k.asked = append(k.asked, string(b))
	if n := len(k.asked); n <= len(k.answers) {
		return k.answers[n-1]
	}
	return api.OK
}

// someAnswers tells what a keeper answers: mostly OK; now and then the power goes.
func someAnswers(r *rand.Rand, n int) []api.Errno {
	l := make([]api.Errno, n)
	for i := range l {
		if r.IntN(20) == 0 {
			l[i] = one(r, api.ErrRoom, api.ErrRoom, api.ErrMany, -3)
		}
	}
	if r.IntN(5) == 0 {
		l[r.IntN(n)] = api.ErrPower
	}
	return l
}

// takes tells what Takes of blocks, one by one, till one is refused, come to.
func takes(s *shelf.Shelf, l []string) (api.Taken, error) {
	all := api.Taken{}
	for _, b := range l {
		t, err := s.Take([]byte(b))
		if err != nil {
			return all, err
		}
		all.IDs, all.Lost = slices.Concat(all.IDs, t.IDs), slices.Concat(all.Lost, t.Lost)
	}
	return all, nil
}

// P13.3: whatever a shelf has taken before, over whatever keeper, Load is the Takes of the blocks, one by one.
func TestLoadIsTakes(t *testing.T) {
	r := chance()
	came := map[string]int{}
	for range 600 {
		n := 3 + r.IntN(25)
		pool := graph(r, n)
		for range n / 3 { // clocks that don't fit
			x := nodeOf(one(r, pool[:n]...))
			x.Clock += 1 + r.IntN(2)
			x.Parents = rising(append(x.Parents, hashOf(one(r, pool[:n]...))))
			pool = append(pool, blockOf(x))
		}
		answers := someAnswers(r, 3*n)
		k, k2 := &script{answers: answers}, &script{answers: answers}
		ahead := mixed(r, pool)[:r.IntN(len(pool))]
		s, s2 := over(k, ahead...), over(k2, ahead...)
		l := sorted(pool[:1+r.IntN(n)]...)
		got, err := ark.Load(s, []byte(arkOf(l...)))
		want, wantErr := takes(s2, l)
		if !sameTaken(got, want) || err != wantErr {
			t.Fatalf("Load: %s; want %s", showTaken(got, err), showTaken(want, wantErr))
		}
		if look(s) != look(s2) || !slices.Equal(k.asked, k2.asked) {
			t.Fatal("Load has made another shelf than the Takes")
		}
		came[fmt.Sprintf("some %v, lost %v, error %v", len(got.IDs) > 0, len(got.Lost) > 0, err)]++
	}
	for _, x := range []string{
		"some true, lost false, error <nil>", "some true, lost true, error <nil>", "some false, lost false, error <nil>",
		"some true, lost false, error pleach: error 8", "some true, lost true, error pleach: error 8", "some true, lost false, error pleach: error 7",
	} {
		if came[x] < 5 {
			t.Errorf("%s: %d times alone", x, came[x])
		}
	}
}
