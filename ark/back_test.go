package ark_test

import (
	"slices"
	"testing"

	"pleach/api"
	"pleach/ark"
	"pleach/shelf"
)

// wantBack fails, if a shelf's ark isn't of what it holds, or makes an empty shelf not hold the same, with the same ark.
func wantBack(t *testing.T, s *shelf.Shelf) {
	t.Helper()
	row := ark.Pack(s)
	held := []string{}
	for _, h := range s.Order() {
		b, _ := s.Block(h)
		held = append(held, string(b))
	}
	l, err := ark.Unpack(row)
	if err != nil || !slices.Equal(texts(l), held) {
		t.Fatalf("Unpack: %d blocks, %v; want %d", len(l), err, len(held))
	}
	r := shelf.New(nil)
	got, err := ark.Load(r, row)
	if err != nil || !sameTaken(got, api.Taken{IDs: s.Order()}) {
		t.Fatalf("Load: %s", showTaken(got, err))
	}
	if !slices.Equal(r.Order(), s.Order()) || !slices.Equal(r.Heads(), s.Heads()) || r.Len() != s.Len() || len(r.Waiting()) != 0 {
		t.Fatalf("Order: %s; want %s", show(r.Order()), show(s.Order()))
	}
	if string(ark.Pack(r)) != string(row) {
		t.Fatal("its ark is another one")
	}
}

// P13.4: there and back, whatever a shelf has taken: what waits, what was lost and refused, what came in whatever order.
func TestBack(t *testing.T) {
	wantBack(t, shelf.New(nil))
	wantBack(t, with(b, c))
	wantBack(t, with(a, b, made("late", 3, a), c, f))
	r := chance()
	for range 200 {
		pool := graph(r, 1+r.IntN(40))
		pool = append(pool, made("late", 7, one(r, pool...)), made("w", 2, gone), "", pool[0]+"\x00")
		wantBack(t, with(mixed(r, pool)[:r.IntN(len(pool)+1)]...))
		wantBack(t, over(&script{answers: someAnswers(r, 50)}, mixed(r, pool)...))
	}
}

// P13.4: shelves that hold the same have the same ark, in whatever order it came, whatever else waits; others have another one.
func TestSameArk(t *testing.T) {
	r := chance()
	for range 100 {
		l := graph(r, 1+r.IntN(50))
		want := string(ark.Pack(with(l...)))
		if want != arkOf(sorted(l...)...) {
			t.Fatal("not the ark of the one order")
		}
		for range 3 {
			s := with(append(mixed(r, slices.Concat(l, l)), made("w", 2, gone))...)
			if string(ark.Pack(s)) != want {
				t.Fatalf("%d that came in another order: another ark", s.Len())
			}
		}
		if string(ark.Pack(with(append(l, made("more", 1))...))) == want {
			t.Fatal("one more: the same ark")
		}
	}
}

// P13.4: parts of what is held, loaded one behind the other, come to the same.
func TestInParts(t *testing.T) {
	r := chance()
	for range 60 {
		l := graph(r, 2+r.IntN(40))
		want := with(l...)
		s := shelf.New(nil)
		for range 6 {
			part := with(l[:r.IntN(len(l)+1)]...) // parents are ahead: closed
			if _, err := ark.Load(s, ark.Pack(part)); err != nil {
				t.Fatal(err)
			}
		}
		if _, err := ark.Load(s, ark.Pack(want)); err != nil || string(ark.Pack(s)) != string(ark.Pack(want)) {
			t.Fatalf("in parts: %v, %s", err, show(s.Order()))
		}
	}
}

// wantOneForm fails, if a row is taken whose blocks aren't those of a closed set in the one order, or aren't that row laid again; it tells whether it is taken.
func wantOneForm(t *testing.T, row string) bool {
	t.Helper()
	l, err := ark.Unpack([]byte(row))
	if err != nil {
		return false
	}
	rows := texts(l)
	if !slices.Equal(sorted(rows...), rows) {
		t.Fatalf("taken, and not in the one order: %s", show(hashesOf(rows)))
	}
	if arkOf(rows...) != row || string(ark.Pack(with(rows...))) != row {
		t.Fatalf("taken, and not the ark of its blocks: %.300x", row)
	}
	return true
}

// P13.5: what is taken is the ark of what it is taken for, whatever was done to it, with a right sum.
func TestOneForm(t *testing.T) {
	r := chance()
	taken := 0
	for range 300 {
		l := sorted(graph(r, 1+r.IntN(8))...)
		row := arkOf(l...)
		if !wantOneForm(t, row) {
			t.Fatal("an ark is refused")
		}
		for range 20 {
			turned := []byte(row[:len(row)-32])
			for range 1 + r.IntN(2) {
				turned[r.IntN(len(turned))] = one(r, 0, 1, 2, 0x80, byte(r.Uint32()))
			}
			if wantOneForm(t, sealed(string(turned))) {
				taken++
			}
			if wantOneForm(t, arkOf(someWrong(r, l)...)) {
				taken++
			}
		}
	}
	if taken < 100 {
		t.Errorf("only %d of them are taken", taken)
	}
}
