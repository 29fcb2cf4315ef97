package ark_test

import (
	"encoding/hex"
	"slices"
	"testing"

	"pleach/api"
	"pleach/ark"
	"pleach/shelf"
)

// Blocks that many tests have: a row of three, others without parents, one whose parents have unlike clocks, and one that nobody has, mostly.
var (
	a    = made("a", 1)
	b    = made("b", 2, a)
	c    = made("c", 3, b)
	a2   = made("a2", 1)
	a3   = made("a3", 1)
	f    = made("f", 4, a, c, a2)
	gone = made("gone", 1)
	bare = "\x01\x01\x01\x00\x00" // the chapter's one transaction
)

// wantBlocks fails, if a row isn't read as the ark of these blocks.
func wantBlocks(t *testing.T, what, row string, want ...string) {
	t.Helper()
	l, err := ark.Unpack([]byte(row))
	if err != nil || !slices.Equal(texts(l), want) {
		t.Errorf("%s: %s, %v; want %s", what, show(hashesOf(texts(l))), err, show(hashesOf(want)))
	}
}

// wantBad fails, if a row isn't refused so, by Unpack and by Load, into a shelf in which nothing has changed then.
func wantBad(t *testing.T, what, row string, why api.Errno, at int) {
	t.Helper()
	l, err := ark.Unpack([]byte(row))
	bad, is := err.(*api.Bad)
	if !is || *bad != (api.Bad{Why: why, At: at}) || len(l) != 0 {
		t.Errorf("%s: %d blocks, %v; want %v", what, len(l), err, wrong(why, at))
	}
	s := with(a2, b, f)
	was := look(s)
	taken, err := ark.Load(s, []byte(row))
	bad, is = err.(*api.Bad)
	if !is || *bad != (api.Bad{Why: why, At: at}) || !sameTaken(taken, api.Taken{}) {
		t.Errorf("%s: Load: %s; want %v", what, showTaken(taken, err), wrong(why, at))
	}
	if look(s) != was {
		t.Errorf("%s: Load was refused and has changed something", what)
	}
}

// wantWords fails, if a row is read otherwise than the words say; it tells the error's number.
func wantWords(t *testing.T, row string) api.Errno {
	t.Helper()
	want, bad := unpackOf(row)
	l, err := ark.Unpack([]byte(row))
	if bad == nil {
		if err != nil || !slices.Equal(texts(l), want) {
			t.Fatalf("Unpack(%.300x): %d blocks, %v; want %d", row, len(l), err, len(want))
		}
		return api.OK
	}
	got, is := err.(*api.Bad)
	if !is || *got != *bad || len(l) != 0 {
		t.Fatalf("Unpack(%.300x): %d blocks, %v; want %v", row, len(l), err, bad)
	}
	return bad.Why
}

// wantArk fails, if a shelf's ark isn't that of these blocks, which stand in the one order.
func wantArk(t *testing.T, what string, s *shelf.Shelf, want ...string) {
	t.Helper()
	if got := ark.Pack(s); string(got) != arkOf(want...) {
		t.Errorf("%s: Pack: %.300x; want %.300x", what, got, arkOf(want...))
	}
}

// fromHex tells bytes of their digits.
func fromHex(text string) string {
	b, err := hex.DecodeString(text)
	if err != nil {
		panic(err)
	}
	return string(b)
}

// P13.1, P13.2: the chapter's examples of what is an ark.
func TestExamples(t *testing.T) {
	empty := fromHex("504c454143484131" + "00" + "3293348a0428aae46d4d0726cbf76314595c8cb2fd4882c5f5728f8faebeb9f1")
	if got := ark.Pack(shelf.New(nil)); string(got) != empty {
		t.Errorf("of an empty shelf: %x", got)
	}
	wantBlocks(t, "of an empty shelf", empty)
	ahead := fromHex("504c454143484131" + "01" + "050101010000")
	if got := ark.Pack(with(bare)); string(got) != sealed(ahead) || len(got) != 47 {
		t.Errorf("of one: %x", got)
	}
	wantBlocks(t, "of one", sealed(ahead), bare)
}

// P13.2: the chapter's examples of what is none.
func TestExamplesWrong(t *testing.T) {
	empty := arkOf()
	noAuthor := "PLEACHA1\x01\x05\x01\x00\x01\x00\x00"
	wantBad(t, "no author", sealed(noAuthor), api.ErrAuthor, 11)
	wantBad(t, "no author, and another sum", noAuthor+empty[9:], api.ErrAuthor, 11)
	wantBad(t, "nothing", "", api.ErrShort, 0)
	wantBad(t, "seven bytes", empty[:7], api.ErrShort, 0)
	wantBad(t, "another mark", "PLEACHA2", api.ErrForm, 0)
	wantBad(t, "the mark alone", "PLEACHA1", api.ErrShort, 8)
	wantBad(t, "4097 blocks", "PLEACHA1\x81\x20", api.ErrOver, 8)
	wantBad(t, "another sum", empty[:40]+string([]byte{empty[40] ^ 1}), api.ErrSum, 9)
	wantBad(t, "a byte behind it", empty+"\x00", api.ErrRest, 41)
	wantBad(t, "without its last byte", empty[:40], api.ErrShort, 9)

	two := sorted(a, a2)
	wantBad(t, "the greater one first", arkOf(two[1], two[0]), api.ErrOrder, 10)
	wantBad(t, "one twice", arkOf(a, a), api.ErrOrder, begins(a, a)[1])
	wantBad(t, "a parent that isn't there", arkOf(b), api.ErrOrder, 10)
	late := made("late", 3, a)
	wantBad(t, "a clock that doesn't fit", arkOf(a, late), api.ErrClock, begins(a, late)[1])
	if _, err := ark.Unpack(nil); *err.(*api.Bad) != (api.Bad{Why: api.ErrShort}) {
		t.Errorf("nil: %v", err)
	}
}

// P13.1: the ark is of what is held alone, in the one order, however it came; what waits, was lost or refused isn't in it.
func TestPackHeld(t *testing.T) {
	wantArk(t, "nothing held", with(b, c))
	wantArk(t, "a row", with(a, b, c), a, b, c)
	wantArk(t, "a row, backwards", with(c, b, a), a, b, c)
	wantArk(t, "some wait", with(a2, f, made("w", 2, gone), a), sorted(a, a2)...)
	wantArk(t, "one was lost, one refused", with(made("d", 3, a), a, made("e", 4, a)), a)
	l := []string{a, b, c, a2, a3, f, made("y", 2, a3), made("z", 2, a3, a2)}
	wantArk(t, "many", with(l...), sorted(l...)...)
	slices.Reverse(l)
	wantArk(t, "many, backwards", with(l...), sorted(l...)...)
}

// P13.1: so it is over keepers that keep not all, and of a dead shelf.
func TestPackKept(t *testing.T) {
	s := shelf.New(refuser{b: api.ErrRoom})
	for _, x := range []string{a, b, a2, c} {
		s.Take([]byte(x))
	}
	wantArk(t, "one isn't kept", s, sorted(a, a2)...)
	s = shelf.New(refuser{c: api.ErrPower})
	for _, x := range []string{c, b, a, a2} {
		s.Take([]byte(x))
	}
	wantArk(t, "the power has gone", s, a, b)
}

// P13.1: Pack changes nothing, and answers the same again; what comes behind it is in the next one.
func TestPackAgain(t *testing.T) {
	s := with(a, c, a2)
	was := look(s)
	for range 3 {
		wantArk(t, "again", s, sorted(a, a2)...)
	}
	if look(s) != was {
		t.Error("Pack has changed the shelf")
	}
	s.Take([]byte(b))
	wantArk(t, "more has come", s, sorted(a, a2, b, c)...)
}

// P13.1, P13.2: numbers of blocks, and of a block's bytes, that have more than one byte.
func TestLongNumbers(t *testing.T) {
	for _, n := range []int{127, 128, 129, 300} {
		l := byHash(wide(n))
		wantArk(t, "many blocks", with(l...), l...)
		wantBlocks(t, "many blocks", arkOf(l...), l...)
	}
	for _, size := range []int{100, 116, 117, 118, 119, 120, 16000, 16400, 65536} {
		x := made(string(make([]byte, size)), 1)
		wantArk(t, "a long block", with(x), x)
		wantBlocks(t, "a long block", arkOf(x), x)
	}
}

// R4: the same is answered again, errors too, each in memory of its own.
func TestAgain(t *testing.T) {
	for _, row := range []string{"", "PLEACHA2", arkOf() + "\x00", arkOf(a, a), arkOf(b), "PLEACHA1\x01\x05\x01\x00\x01\x00\x00", arkOf()[:40], arkOf(a, made("late", 3, a))} {
		_, err := ark.Unpack([]byte(row))
		was := *err.(*api.Bad)
		*err.(*api.Bad) = api.Bad{}
		if _, err = ark.Unpack([]byte(row)); *err.(*api.Bad) != was {
			t.Errorf("%x: %v behind a changed error, want %v", row, err, &was)
		}
	}
}
