package session_test

import (
	"fmt"
	"math"
	"slices"
	"testing"

	"pleach/api"
	"pleach/bloom"
	"pleach/msg"
	"pleach/session"
	"pleach/shelf"
)

// Blocks that many tests have: a row of three, others without parents, one whose parents have unlike clocks, and one that nobody has, mostly.
var (
	a    = made("a", 1)
	b    = made("b", 2, a)
	c    = made("c", 3, b)
	d    = made("d", 3, a) // its clock doesn't fit
	a2   = made("a2", 1)
	a3   = made("a3", 1)
	f    = made("f", 4, a, c, a2)
	gone = made("gone", 1)
)

// wantSame fails, if what was answered isn't what should be.
func wantSame(t *testing.T, what string, out []api.Message, taken api.Taken, e api.Errno, wantOut []api.Message, wantTaken api.Taken, wantE api.Errno) {
	t.Helper()
	if !slices.EqualFunc(out, wantOut, sameMessage) || !sameTaken(taken, wantTaken) || e != wantE {
		t.Errorf("%s: %s; want %s", what, showAnswer(out, taken, e), showAnswer(wantOut, wantTaken, wantE))
	}
}

// wantSaid fails, if other messages than these are said to one, or one of them may not be, or anything is told as taken, or has changed.
func wantSaid(t *testing.T, what string, s *shelf.Shelf, m api.Message, want ...api.Message) {
	t.Helper()
	was := look(s)
	out, taken, e := session.Answer(s, m)
	wantSame(t, what, out, taken, e, want, api.Taken{}, api.OK)
	for _, x := range out {
		if e := msg.Check(x); e != api.OK {
			t.Errorf("%s: a message that may not be: %d", what, e)
		}
	}
	if look(s) != was {
		t.Errorf("%s: the shelf has changed", what)
	}
}

// wantTakes fails, if of a message of these blocks others are told as held, or as lost, or if anything is said to it.
func wantTakes(t *testing.T, what string, s *shelf.Shelf, l, ids []string, lost ...string) {
	t.Helper()
	out, taken, e := session.Answer(s, blocksMsg(l...))
	wantSame(t, what, out, taken, e, nil, api.Taken{IDs: hashesOf(ids), Lost: hashesOf(lost)}, api.OK)
}

// wantRefused fails, if a message isn't answered with that error alone, or anything has changed.
func wantRefused(t *testing.T, what string, s *shelf.Shelf, m api.Message, why api.Errno) {
	t.Helper()
	was := look(s)
	out, taken, e := session.Answer(s, m)
	wantSame(t, what, out, taken, e, nil, api.Taken{}, why)
	if look(s) != was {
		t.Errorf("%s: the shelf has changed", what)
	}
}

// wantHello fails, if a shelf says something else of itself, or that may not be, or anything has changed.
func wantHello(t *testing.T, what string, s *shelf.Shelf, salt uint64, heads []string, held []string, want ...string) {
	t.Helper()
	was := look(s)
	m := session.Hello(s, salt)
	x := api.Message{Kind: api.MsgHello, Heads: named(heads...), Salt: salt, Bloom: digestOf(salt, held...), Want: named(want...)}
	if !sameMessage(m, x) || len(m.Blocks) != 0 {
		t.Errorf("%s: Hello: %s; want %s", what, showMessage(m), showMessage(x))
	}
	if e := msg.Check(m); e != api.OK {
		t.Errorf("%s: Hello: a message that may not be: %d", what, e)
	}
	if look(s) != was {
		t.Errorf("%s: Hello has changed the shelf", what)
	}
}

// wantAll fails, if a shelf holds others than these, or others wait, the oldest first.
func wantAll(t *testing.T, what string, s *shelf.Shelf, held []string, waiting ...string) {
	t.Helper()
	if want := hashesOf(sorted(held...)); !slices.Equal(s.Order(), want) || s.Len() != len(held) {
		t.Errorf("%s: %d are held: %s; want %s", what, s.Len(), show(s.Order()), show(want))
	}
	if !slices.Equal(s.Waiting(), hashesOf(waiting)) {
		t.Errorf("%s: waiting: %s; want %s", what, show(s.Waiting()), show(hashesOf(waiting)))
	}
}

// blocksMsg and wantMsg tell messages of these blocks, and of their hashes.
func blocksMsg(l ...string) api.Message {
	return api.Message{Kind: api.MsgBlocks, Blocks: rows(l...)}
}

func wantMsg(l ...string) api.Message { return api.Message{Kind: api.MsgWant, Want: named(l...)} }

// none and all tell digests that have nothing, and everything.
func none() []byte { return make([]byte, 8) }

func all() []byte { return slices.Repeat([]byte{255}, 8) }

// P20.1, P20.2: the chapter's examples, one behind the other.
func TestExamples(t *testing.T) {
	digest := digestOf(7, a)
	row := func(i int) (string, string) {
		y := made(fmt.Sprint("y", i), 2, a)
		return y, made("z", 3, y)
	}
	i := 0
	y, z := row(i)
	for ; digestHas(api.Message{Salt: 7, Bloom: digest}, y) || digestHas(api.Message{Salt: 7, Bloom: digest}, z); i++ {
		y, z = row(i)
	}
	A, B := with(a, y, z), with(a)
	wantHello(t, "of B", B, 7, []string{a}, []string{a})
	wantSaid(t, "to the hello of B", A, session.Hello(B, 7), blocksMsg(y, z))
	wantTakes(t, "the blocks", B, []string{y, z}, []string{y, z})

	B = with(a)
	wantHello(t, "of A", A, 7, []string{z}, []string{a, y, z})
	wantSaid(t, "to the hello of A", B, session.Hello(A, 7), wantMsg(z))
	wantSaid(t, "to the want", A, wantMsg(z), blocksMsg(z))
	wantTakes(t, "the last one", B, []string{z}, nil)
	wantAll(t, "the last one", B, []string{a}, z)
	wantHello(t, "of B then", B, 7, []string{a}, []string{a}, y)
	wantRefused(t, "no message", B, api.Message{}, api.ErrKind)
}

// P20.2: the document's seventh example: a digest that lies about the middle one of three.
func TestLiesAboutOne(t *testing.T) {
	A, B := with(a, b, c), shelf.New(nil)
	salt := uint64(0)
	hello := func() api.Message { return api.Message{Kind: api.MsgHello, Salt: salt, Bloom: digestOf(salt, b)} }
	for digestHas(hello(), a) || digestHas(hello(), c) {
		salt++
	}
	wantSaid(t, "round 1", A, hello(), blocksMsg(a, c))
	wantTakes(t, "round 1", B, []string{a, c}, []string{a})
	wantAll(t, "round 1", B, []string{a}, c)
	m := session.Hello(B, salt)
	if !slices.Equal(m.Want, named(b)) {
		t.Errorf("it wants %s", show(m.Want))
	}
	m.Bloom = all()
	wantSaid(t, "round 2", A, m, blocksMsg(b))
	wantTakes(t, "round 2", B, []string{b}, []string{b, c})
}

// P20.1: of shelves that hold nothing, one, many, in which others wait; with whatever salt.
func TestHello(t *testing.T) {
	w := made("w", 2, gone)
	for _, salt := range []uint64{0, 1, 7, 255, 256, 1 << 32, 1 << 63, math.MaxUint64} {
		wantHello(t, "nothing", with(), salt, nil, nil)
		wantHello(t, "one", with(a), salt, []string{a}, []string{a})
		wantHello(t, "a row", with(a, b, c), salt, []string{c}, []string{a, b, c})
		wantHello(t, "unlike ones", with(a, a2, a3, b), salt, []string{b, a2, a3}, []string{a, b, a2, a3})
		wantHello(t, "one waits alone", with(w), salt, nil, nil, gone)
		wantHello(t, "some wait", with(a, c, f, w), salt, []string{a}, []string{a}, b, a2, gone)
		wantHello(t, "one waits for one that waits", with(c, b), salt, nil, nil, a)
		wantHello(t, "seven", with(a, b, c, a2, a3, f, gone), salt, []string{f, a3, gone}, []string{a, b, c, a2, a3, f, gone})
	}
	for i := range 64 { // each bit of the salt tells
		m, x := session.Hello(with(a), 0), session.Hello(with(a), 1<<i)
		if x.Salt != 1<<i || slices.Equal(m.Bloom, x.Bloom) {
			t.Errorf("salt 1<<%d: %s", i, showMessage(x))
		}
	}
}

// P20.1: Hello tells what is held and what waits at that time, and the same when it is asked again.
func TestHelloGrows(t *testing.T) {
	s := shelf.New(nil)
	held := []string{}
	for i, x := range []string{a2, a, b, c, f} {
		s.Take([]byte(x))
		held = append(held, x)
		for range 2 {
			wantHello(t, fmt.Sprint("of ", i+1), s, 3, [][]string{{a2}, {a2, a}, {a2, b}, {a2, c}, {f}}[i], held)
		}
	}
}

// P20.1, P20.2: the digest of a hello has all that is held, so whoever holds no more than that says nothing to it.
func TestNothingToSay(t *testing.T) {
	l := []string{a, b, c, a2, a3, f}
	s := with(l...)
	for _, salt := range []uint64{0, 1, 2, 3, 99, math.MaxUint64} {
		for _, x := range [][]string{l, {a}, {a, b, a3}, {a2}} {
			m := session.Hello(s, salt)
			for _, h := range m.Heads {
				if !slices.Contains(hashesOf(x), h) {
					m.Heads = nil
					break
				}
			}
			wantSaid(t, "no more", with(x...), m)
		}
		if b := session.Hello(s, salt).Bloom; !bloom.Right(b) {
			t.Errorf("a digest of %d bytes", len(b))
		}
	}
}

// wrongMessages tells messages that may not be, and their errors.
func wrongMessages() map[string]api.Message {
	h0, h1 := api.Hash{}, api.Hash{1}
	many := make([]api.Hash, 4097)
	for i := range many {
		many[i] = api.Hash{byte(i >> 8), byte(i)}
	}
	hello := func(change func(*api.Message)) api.Message {
		m := api.Message{Kind: api.MsgHello, Bloom: none()}
		change(&m)
		return m
	}
	rows257 := slices.Repeat(rows(a), 257)
	long := make([]byte, api.MaxNode)
	return map[string]api.Message{
		"hello with blocks":       hello(func(m *api.Message) { m.Blocks = rows(a) }),
		"want with heads":         {Kind: api.MsgWant, Heads: []api.Hash{h0}},
		"want with a salt":        {Kind: api.MsgWant, Want: named(a), Salt: 1},
		"want with a digest":      {Kind: api.MsgWant, Want: named(a), Bloom: none()},
		"want with blocks":        {Kind: api.MsgWant, Want: named(a), Blocks: rows(b)},
		"blocks with heads":       {Kind: api.MsgBlocks, Blocks: rows(b), Heads: named(b)},
		"blocks with a salt":      {Kind: api.MsgBlocks, Blocks: rows(b), Salt: 9},
		"blocks with a digest":    {Kind: api.MsgBlocks, Blocks: rows(b), Bloom: none()},
		"blocks with a want":      {Kind: api.MsgBlocks, Blocks: rows(b), Want: named(b)},
		"too many heads":          hello(func(m *api.Message) { m.Heads = many }),
		"hello with too many":     hello(func(m *api.Message) { m.Want = many }),
		"too many wanted":         {Kind: api.MsgWant, Want: many},
		"too many blocks":         {Kind: api.MsgBlocks, Blocks: rows257},
		"no blocks":               {Kind: api.MsgBlocks},
		"no blocks, not nil":      {Kind: api.MsgBlocks, Blocks: [][]byte{}},
		"heads that fall":         hello(func(m *api.Message) { m.Heads = []api.Hash{h1, h0} }),
		"a head twice":            hello(func(m *api.Message) { m.Heads = []api.Hash{h1, h1} }),
		"hello, wants that fall":  hello(func(m *api.Message) { m.Want = []api.Hash{h1, h0} }),
		"wants that fall":         {Kind: api.MsgWant, Want: []api.Hash{h1, h0}},
		"one wanted twice":        {Kind: api.MsgWant, Want: slices.Repeat(named(a), 2)},
		"no digest":               hello(func(m *api.Message) { m.Bloom = nil }),
		"a digest of nine bytes":  hello(func(m *api.Message) { m.Bloom = make([]byte, 9) }),
		"a digest that is great":  hello(func(m *api.Message) { m.Bloom = make([]byte, 16384) }),
		"an empty block":          {Kind: api.MsgBlocks, Blocks: append(rows(b), nil)},
		"an empty block first":    {Kind: api.MsgBlocks, Blocks: append([][]byte{{}}, rows(b)...)},
		"a block that is long":    {Kind: api.MsgBlocks, Blocks: append(rows(b), make([]byte, api.MaxNode+1))},
		"more than a message has": {Kind: api.MsgBlocks, Blocks: append(rows(b), long, long)},
	}
}

// P20.2: messages that may not be: msg.Check's error, and nothing has changed, on whatever shelf.
func TestWrongMessages(t *testing.T) {
	errs := map[string]api.Errno{
		"hello with blocks": api.ErrField, "want with heads": api.ErrField, "want with a salt": api.ErrField, "want with a digest": api.ErrField, "want with blocks": api.ErrField,
		"blocks with heads": api.ErrField, "blocks with a salt": api.ErrField, "blocks with a digest": api.ErrField, "blocks with a want": api.ErrField,
		"too many heads": api.ErrMany, "hello with too many": api.ErrMany, "too many wanted": api.ErrMany, "too many blocks": api.ErrMany,
		"no blocks": api.ErrArg, "no blocks, not nil": api.ErrArg,
		"heads that fall": api.ErrOrder, "a head twice": api.ErrOrder, "hello, wants that fall": api.ErrOrder, "wants that fall": api.ErrOrder, "one wanted twice": api.ErrOrder,
		"no digest": api.ErrShape, "a digest of nine bytes": api.ErrShape, "a digest that is great": api.ErrShape,
		"an empty block": api.ErrBytes, "an empty block first": api.ErrBytes, "a block that is long": api.ErrBytes, "more than a message has": api.ErrBytes,
	}
	for what, m := range wrongMessages() {
		if errs[what] == api.OK || msg.Check(m) != errs[what] {
			t.Errorf("%s: %d", what, msg.Check(m))
		}
		for _, s := range []*shelf.Shelf{with(), with(a), with(a, c, f), deadShelf()} {
			wantRefused(t, what, s, m, errs[what])
		}
	}
}

// deadShelf tells a shelf whose power is gone.
func deadShelf() *shelf.Shelf { return over(refuser{a2: api.ErrPower}, a, c, a2) }

// P20.2: no other number than those of the three kinds is one, whatever the fields are.
func TestWrongKinds(t *testing.T) {
	for _, kind := range []int{0, 4, 5, 255, 256, 257, 258, 259, -1, -2, -3, 1<<32 + 1, 1<<32 + 2, 1<<32 + 3, math.MinInt, math.MaxInt} {
		for _, m := range []api.Message{{}, session.Hello(with(a, b), 5), wantMsg(a), blocksMsg(b)} {
			m.Kind = kind
			for _, s := range []*shelf.Shelf{with(), with(a, c), deadShelf()} {
				wantRefused(t, fmt.Sprint("kind ", kind), s, m, api.ErrKind)
			}
		}
	}
}
