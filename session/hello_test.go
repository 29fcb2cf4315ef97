package session_test

import (
	"fmt"
	"slices"
	"testing"

	"pleach/api"
	"pleach/session"
	"pleach/shelf"
)

// helloMsg tells a hello of a digest, with these heads.
func helloMsg(digest []byte, heads ...string) api.Message {
	return api.Message{Kind: api.MsgHello, Heads: named(heads...), Bloom: digest}
}

// wanting tells a hello that names what it wants.
func wanting(m api.Message, l ...string) api.Message {
	m.Want = named(l...)
	return m
}

// P20.2: to a digest that has nothing all that is held is said, in the one order; what waits isn't; to one that has all, nothing is.
func TestDigests(t *testing.T) {
	w := made("w", 2, gone)
	for _, l := range [][]string{nil, {a}, {a, b}, {c, b, a}, {a2, a, a3}, {f, a3, c, b, a2, a}, {w}, {a, b, w}, {c, f, w, a}} {
		s := with(l...)
		held := []string{}
		for _, x := range sorted(l...) {
			if s.Has(hashOf(x)) {
				held = append(held, x)
			}
		}
		if len(held) == 0 {
			wantSaid(t, "none, of nothing", s, helloMsg(none()))
		} else {
			wantSaid(t, "none", s, helloMsg(none()), blocksMsg(held...))
			wantSaid(t, "none, of more bytes", s, helloMsg(make([]byte, 8192)), blocksMsg(held...))
		}
		wantSaid(t, "all", s, helloMsg(all()))
		wantSaid(t, "all, of more bytes", s, helloMsg(slices.Repeat([]byte{255}, 8192)))
	}
}

// P20.2: a digest tells just what it has, by the salt that stands beside it: what is held and isn't in it is said, what is in it and isn't held counts for nothing.
func TestDigestTells(t *testing.T) {
	l := sorted(a, b, c, a2, a3, f)
	s := with(l...)
	said := 0
	for salt := range uint64(40) {
		for _, x := range [][]string{{a}, {b}, {c, a2}, {a, b, c}, {gone}, {gone, a3}, {f}, l} {
			m := api.Message{Kind: api.MsgHello, Salt: salt << 20, Bloom: digestOf(salt<<20, x...)}
			rest := slices.DeleteFunc(slices.Clone(l), func(y string) bool { return digestHas(m, y) })
			wantSaid(t, fmt.Sprint("salt ", m.Salt), s, m, filled(rest...)...)
			said += len(rest)
		}
	}
	if said < 40*20 {
		t.Errorf("%d blocks alone were said", said)
	}
	m := session.Hello(with(a, b, a2), 7)
	m.Salt = 8
	rest := slices.DeleteFunc(slices.Clone(l), func(y string) bool { return digestHas(m, y) })
	if slices.Equal(rest, slices.DeleteFunc(slices.Clone(l), func(y string) bool { return y == a || y == b || y == a2 })) {
		t.Fatal("another salt tells the same")
	}
	wantSaid(t, "another salt", s, wanting(m), filled(rest...)...)
}

// P20.2: what a hello wants by name is said, whatever its digest tells, each once, in the one order; what waits and what is unknown isn't.
func TestHelloWants(t *testing.T) {
	w := made("w", 2, gone)
	l := sorted(a, b, c, a2, a3, f)
	s := with(append(l, w)...)
	for _, x := range [][]string{{a}, {c}, {f, a}, {a, b, c, a2, a3, f}, {c, a3, b}} {
		wantSaid(t, "named", s, wanting(helloMsg(all()), x...), blocksMsg(inOrder(l, x)...))
		wantSaid(t, "named and unknown", s, wanting(helloMsg(all()), append(x, gone, w, made("no", 1))...), blocksMsg(inOrder(l, x)...))
		wantSaid(t, "named and not in the digest", s, wanting(helloMsg(none()), x...), blocksMsg(l...))
	}
	wantSaid(t, "unknown alone", s, wanting(helloMsg(all()), gone, made("no", 1)))
	wantSaid(t, "one that waits", s, wanting(helloMsg(all()), w))
	m := api.Message{Kind: api.MsgHello, Bloom: all(), Want: []api.Hash{{}, {31: 1}}}
	wantSaid(t, "hashes of nothing", s, m)

	// Some are named, some lack in the digest, some both: one list of all, not two.
	m = api.Message{Kind: api.MsgHello, Salt: 3, Bloom: digestOf(3, a, b, a2)}
	rest := []string{}
	for _, y := range l {
		if y == b || y == f || !digestHas(m, y) {
			rest = append(rest, y)
		}
	}
	wantSaid(t, "both", s, wanting(m, b, f), blocksMsg(rest...))
	if len(rest) < 3 {
		t.Errorf("%d alone", len(rest))
	}
}

// inOrder tells those of a list that stand in another one, in the list's order.
func inOrder(l, x []string) []string {
	return slices.DeleteFunc(slices.Clone(l), func(y string) bool { return !slices.Contains(x, y) })
}

// P20.2: of the heads of a hello those that neither are held nor wait are asked for, rising, in one message behind the blocks; a head that is held below others, and one that waits, isn't.
func TestHelloHeads(t *testing.T) {
	w, x := made("w", 2, gone), made("x", 9, c)
	s := with(a, b, c, a2, w)
	held := sorted(a, b, c, a2)
	for _, heads := range [][]string{{a}, {c}, {a2, b}, {w}, {a, w, c}} {
		wantSaid(t, "known", s, helloMsg(all(), heads...))
		wantSaid(t, "known", s, helloMsg(none(), heads...), blocksMsg(held...))
	}
	many := []string{gone, x, a3, f, made("y", 1), made("z", 1)}
	for i := range many {
		wantSaid(t, "unknown", s, helloMsg(all(), many[:i+1]...), wantMsg(many[:i+1]...))
		wantSaid(t, "some unknown", s, helloMsg(all(), append([]string{a, c, w}, many[:i+1]...)...), wantMsg(many[:i+1]...))
		wantSaid(t, "unknown, behind blocks", s, helloMsg(none(), append([]string{b, w}, many[:i+1]...)...), blocksMsg(held...), wantMsg(many[:i+1]...))
		wantSaid(t, "unknown to an empty one", with(), helloMsg(none(), many[:i+1]...), wantMsg(many[:i+1]...))
		wantSaid(t, "a digest that has them", s, helloMsg(digestOf(0, many[:i+1]...), many[:i+1]...), append(filled(lacking(held, digestOf(0, many[:i+1]...))...), wantMsg(many[:i+1]...))...)
	}
	m := api.Message{Kind: api.MsgHello, Bloom: all(), Heads: []api.Hash{{}, {0: 255, 31: 255}}}
	wantSaid(t, "hashes of nothing", s, m, api.Message{Kind: api.MsgWant, Want: m.Heads})
	wantSaid(t, "unknown and wanted there, too", s, wanting(helloMsg(all(), gone, a3), gone, a), blocksMsg(a), wantMsg(gone, a3))
}

// lacking tells those of a list that a digest of salt 0 doesn't have.
func lacking(l []string, digest []byte) []string {
	return slices.DeleteFunc(slices.Clone(l), func(x string) bool { return digestHas(api.Message{Bloom: digest}, x) })
}

// P20.2: what a want names and is held is said, in the one order, and nothing else.
func TestWant(t *testing.T) {
	w := made("w", 2, gone)
	l := sorted(a, b, c, a2, a3, f)
	s := with(append(l, w)...)
	wantSaid(t, "nothing", s, wantMsg())
	wantSaid(t, "nothing, of nothing", with(), wantMsg())
	for _, x := range [][]string{{a}, {c}, {f, a}, {a, b, c, a2, a3, f}, {c, a3, b}} {
		wantSaid(t, "held", s, wantMsg(x...), blocksMsg(inOrder(l, x)...))
		wantSaid(t, "held and others", s, wantMsg(append(x, w, gone, made("no", 1))...), blocksMsg(inOrder(l, x)...))
		wantSaid(t, "of an empty one", with(), wantMsg(x...))
		wantSaid(t, "of one in which they wait", with(w, b, c, f), wantMsg(b, c, f, w))
	}
	wantSaid(t, "what waits", s, wantMsg(w))
	wantSaid(t, "what is unknown", s, wantMsg(gone))
	wantSaid(t, "hashes of nothing", s, api.Message{Kind: api.MsgWant, Want: []api.Hash{{}, {31: 1}, {0: 255}}})
}

// P20.2: the order is the one order, not that of the hashes and not that in which they came: in a row of parents whose hashes fall, parents stand ahead.
func TestOneOrder(t *testing.T) {
	row := []string{a}
	for i := 0; len(row) < 6; i++ {
		x := made(fmt.Sprint("row", i), len(row)+1, row[len(row)-1])
		if h, last := hashOf(x), hashOf(row[len(row)-1]); slices.Compare(h[:], last[:]) < 0 {
			row = append(row, x)
		}
	}
	back := slices.Clone(row)
	slices.Reverse(back)
	for _, l := range [][]string{row, back} {
		s := with(l...)
		wantSaid(t, "a hello", s, helloMsg(none()), blocksMsg(row...))
		wantSaid(t, "a hello that wants all", s, wanting(helloMsg(all()), l...), blocksMsg(row...))
		wantSaid(t, "a hello that wants some", s, wanting(helloMsg(all()), row[1], row[4], row[5]), blocksMsg(row[1], row[4], row[5]))
		wantSaid(t, "a want", s, wantMsg(l...), blocksMsg(row...))
	}
}

// P20.2: a dead shelf says to hellos and wants what it said before, and of itself the same.
func TestDeadSays(t *testing.T) {
	s := deadShelf() // it holds a, c waits
	wantHello(t, "dead", s, 4, []string{a}, []string{a}, b)
	wantSaid(t, "dead", s, helloMsg(none(), a2, c, a), blocksMsg(a), wantMsg(a2))
	wantSaid(t, "dead", s, wantMsg(a, a2, c), blocksMsg(a))
	wantRefused(t, "dead", s, blocksMsg(b), api.ErrPower)
}

// P20.2, R4: asked again, the same is said; nothing is remembered from message to message.
func TestSaidAgain(t *testing.T) {
	s := with(a, b, c, a2)
	m := wanting(helloMsg(none(), gone, f), b)
	for range 3 {
		wantSaid(t, "a hello", s, m, blocksMsg(sorted(a, b, c, a2)...), wantMsg(gone, f))
		wantSaid(t, "a want", s, wantMsg(c), blocksMsg(c))
	}
	two := shelf.New(nil)
	wantSaid(t, "another one", two, m, wantMsg(gone, f))
	wantTakes(t, "another one", two, []string{f, gone}, []string{gone})
	wantSaid(t, "another one then", two, m, blocksMsg(gone))
}
