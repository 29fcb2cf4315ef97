package msg_test

import (
	"bytes"
	"math"
	"slices"
	"testing"

	"pleach/api"
	"pleach/msg"
)

// wantError: Check and Encode tell that very error, and nothing beside it.
func wantError(t *testing.T, m api.Message, why api.Errno) {
	t.Helper()
	if e := msg.Check(m); e != why {
		t.Fatalf("Check of %s: error %d, want %d", show(m), e, why)
	}
	if b, e := msg.Encode(m); e != why || len(b) != 0 {
		t.Fatalf("Encode of %s: %d bytes, error %d, want %d", show(m), len(b), e, why)
	}
}

// wantBytes: a message may be, and its bytes are those.
func wantBytes(t *testing.T, m api.Message, want []byte) {
	t.Helper()
	if e := msg.Check(m); e != api.OK {
		t.Fatalf("Check of %s: error %d", show(m), e)
	}
	b, e := msg.Encode(m)
	if e != api.OK || !bytes.Equal(b, want) {
		t.Fatalf("Encode of %s: %.60x, error %d, want %.60x", show(m), b, e, want)
	}
}

// wantWords: Check and Encode answer what the chapter's words say, whatever that is; it tells which error that was.
func wantWords(t *testing.T, m api.Message) api.Errno {
	t.Helper()
	why := errorOf(m)
	if why != api.OK {
		wantError(t, m, why)
	} else {
		wantBytes(t, m, bytesOf(m))
	}
	return why
}

// P7.1: the chapter's examples of bytes, and others written by hand.
func TestEncodeExamples(t *testing.T) {
	zero, hash1 := zeroHash, zeroHash[:62]+"01"
	eight := zeroHash[:16]
	for _, c := range []struct {
		m   api.Message
		row string
	}{
		{api.Message{Kind: api.MsgWant, Want: []api.Hash{h0}}, "02 01" + zero},
		{api.Message{Kind: api.MsgWant}, "02 00"},
		{api.Message{Kind: api.MsgWant, Want: []api.Hash{}}, "02 00"},
		{api.Message{Kind: api.MsgWant, Want: []api.Hash{h0, h1}}, "02 02" + zero + hash1},
		{api.Message{Kind: api.MsgHello, Salt: 258, Bloom: make([]byte, 8)}, "01 00 02 01 00 00 00 00 00 00 08" + eight + "00"},
		{api.Message{Kind: api.MsgHello, Salt: 0x0102030405060708, Bloom: []byte{1, 2, 3, 4, 5, 6, 7, 8}}, "01 00 08 07 06 05 04 03 02 01 08 01 02 03 04 05 06 07 08 00"},
		{api.Message{Kind: api.MsgHello, Salt: math.MaxUint64, Bloom: make([]byte, 8)}, "01 00 ff ff ff ff ff ff ff ff 08" + eight + "00"},
		{api.Message{Kind: api.MsgHello, Heads: []api.Hash{h0}, Bloom: make([]byte, 8), Want: []api.Hash{h1}}, "01 01" + zero + eight + "08" + eight + "01" + hash1},
		{api.Message{Kind: api.MsgHello, Heads: []api.Hash{h0, h1}, Bloom: make([]byte, 16), Want: []api.Hash{}}, "01 02" + zero + hash1 + eight + "10" + eight + eight + "00"},
		{api.Message{Kind: api.MsgBlocks, Blocks: [][]byte{{1}, {2, 3}}}, "03 02 01 01 02 02 03"},
		{api.Message{Kind: api.MsgBlocks, Blocks: [][]byte{{0}}}, "03 01 01 00"},
		{api.Message{Kind: api.MsgBlocks, Blocks: [][]byte{{7}, {7}, {7}}}, "03 03 01 07 01 07 01 07"}, // blocks need not rise
	} {
		wantBytes(t, c.m, fromHex(c.row))
	}
}

// P7.1: the chapter's examples of errors.
func TestCheckExamples(t *testing.T) {
	for _, c := range []struct {
		m   api.Message
		why api.Errno
	}{
		{api.Message{Kind: 0}, api.ErrKind},
		{api.Message{Kind: 4}, api.ErrKind},
		{api.Message{Kind: api.MsgWant, Salt: 1}, api.ErrField},
		{api.Message{Kind: api.MsgBlocks}, api.ErrArg},
		{api.Message{Kind: api.MsgBlocks, Blocks: [][]byte{}}, api.ErrArg},
		{api.Message{Kind: api.MsgBlocks, Blocks: [][]byte{nil}}, api.ErrBytes},
		{api.Message{Kind: api.MsgBlocks, Blocks: [][]byte{{}}}, api.ErrBytes},
		{api.Message{Kind: api.MsgWant, Want: []api.Hash{h1, h0}}, api.ErrOrder},
		{api.Message{Kind: api.MsgWant, Want: []api.Hash{h0, h0}}, api.ErrOrder},
		{api.Message{Kind: api.MsgHello}, api.ErrShape},
		{api.Message{Kind: api.MsgHello, Bloom: make([]byte, 9)}, api.ErrShape},
		{api.Message{Kind: api.MsgBlocks, Blocks: rows(257, 1)}, api.ErrMany},
	} {
		wantError(t, c.m, c.why)
	}
}

// P7.1: no number but those of the table is a kind, not even one of which the lowest byte is one, whatever the fields are.
func TestKinds(t *testing.T) {
	for _, kind := range []int{0, 4, 5, 127, 128, 255, 256, 257, 258, 259, 260, 1 << 32, 1<<32 + 1, 1<<32 + 2, 1<<32 + 3, -1, -2, -3, -253, -254, -255, math.MinInt, math.MinInt + 1, math.MinInt + 2, math.MaxInt, math.MaxInt - 1} {
		wantError(t, api.Message{Kind: kind}, api.ErrKind)
		for _, m := range ofEachKind() {
			m.Kind = kind
			wantError(t, m, api.ErrKind)
		}
	}
	for _, m := range ofEachKind() {
		wantBytes(t, m, bytesOf(m))
	}
}

// P7.1: of each kind each field that it doesn't have, set in many ways; lists without elements are zero, nil or not.
func TestFields(t *testing.T) {
	sets := map[string][]func(m *api.Message){
		"Heads":  {func(m *api.Message) { m.Heads = []api.Hash{{}} }, func(m *api.Message) { m.Heads = hashes(5000) }, func(m *api.Message) { m.Heads = []api.Hash{h1, h0} }},
		"Salt":   {func(m *api.Message) { m.Salt = 1 }, func(m *api.Message) { m.Salt = 1 << 63 }, func(m *api.Message) { m.Salt = math.MaxUint64 }},
		"Bloom":  {func(m *api.Message) { m.Bloom = []byte{0} }, func(m *api.Message) { m.Bloom = make([]byte, 8) }, func(m *api.Message) { m.Bloom = make([]byte, 9000) }},
		"Want":   {func(m *api.Message) { m.Want = []api.Hash{{}} }, func(m *api.Message) { m.Want = hashes(5000) }, func(m *api.Message) { m.Want = []api.Hash{h1, h0} }},
		"Blocks": {func(m *api.Message) { m.Blocks = [][]byte{nil} }, func(m *api.Message) { m.Blocks = rows(1, 1) }, func(m *api.Message) { m.Blocks = rows(300, 1) }},
	}
	lacks := map[int][]string{1: {"Blocks"}, 2: {"Heads", "Salt", "Bloom", "Blocks"}, 3: {"Heads", "Salt", "Bloom", "Want"}}
	empty := func(m *api.Message) {
		if m.Heads == nil {
			m.Heads = []api.Hash{}
		}
		if m.Bloom == nil {
			m.Bloom = []byte{}
		}
		if m.Want == nil {
			m.Want = []api.Hash{}
		}
		if m.Blocks == nil {
			m.Blocks = [][]byte{}
		}
	}
	for _, m := range ofEachKind() {
		for _, name := range lacks[m.Kind] {
			for _, set := range sets[name] {
				x := m
				set(&x)
				wantError(t, x, api.ErrField)
			}
		}
		x := m
		empty(&x)
		wantBytes(t, x, bytesOf(m))
	}
}

// P7.1: lists of just so many elements as may be, and of one more, and of many more, whatever else is wrong behind that.
func TestMany(t *testing.T) {
	digest := make([]byte, 8)
	for _, n := range []int{4095, 4096, 4097, 5000, 10000} {
		why := api.OK
		if n > 4096 {
			why = api.ErrMany
		}
		for _, m := range []api.Message{
			{Kind: 1, Heads: hashes(n), Bloom: digest},
			{Kind: 1, Want: hashes(n), Bloom: digest},
			{Kind: 1, Heads: hashes(n), Want: hashes(n), Bloom: digest},
			{Kind: 1, Heads: hashes(n), Want: hashes(4096), Bloom: make([]byte, 8192)},
			{Kind: 2, Want: hashes(n)},
		} {
			if got := wantWords(t, m); got != why {
				t.Errorf("%d elements: error %d", n, got)
			}
		}
		if why != api.OK {
			wantError(t, api.Message{Kind: 1, Heads: make([]api.Hash, n)}, api.ErrMany)
			wantError(t, api.Message{Kind: 1, Want: make([]api.Hash, n)}, api.ErrMany)
			wantError(t, api.Message{Kind: 2, Want: make([]api.Hash, n)}, api.ErrMany)
		}
	}
	for _, n := range []int{1, 2, 127, 128, 129, 255, 256} {
		wantBytes(t, api.Message{Kind: 3, Blocks: rows(n, 1)}, bytesOf(api.Message{Kind: 3, Blocks: rows(n, 1)}))
	}
	for _, n := range []int{257, 258, 512, 4096, 65536} {
		wantError(t, api.Message{Kind: 3, Blocks: rows(n, 1)}, api.ErrMany)
		wantError(t, api.Message{Kind: 3, Blocks: make([][]byte, n)}, api.ErrMany)
	}
}

// P7.1: each pair of neighbours the same, and the wrong way round, in each list.
func TestOrder(t *testing.T) {
	for _, n := range []int{2, 3, 64} {
		for i := 1; i < n; i++ {
			same, falling := hashes(n), hashes(n)
			same[i] = same[i-1]
			falling[i], falling[i-1] = falling[i-1], falling[i]
			for _, l := range [][]api.Hash{same, falling} {
				wantError(t, api.Message{Kind: 1, Heads: l, Bloom: make([]byte, 8)}, api.ErrOrder)
				wantError(t, api.Message{Kind: 1, Want: l, Bloom: make([]byte, 8)}, api.ErrOrder)
				wantError(t, api.Message{Kind: 1, Heads: l, Want: hashes(2)}, api.ErrOrder) // ahead of ErrShape
				wantError(t, api.Message{Kind: 2, Want: l}, api.ErrOrder)
			}
		}
	}
	last := hashes(4096)
	last[4095] = last[4094]
	wantError(t, api.Message{Kind: 2, Want: last}, api.ErrOrder)
	both := []api.Hash{h0, h1} // Heads and Want have nothing to do with one another
	wantBytes(t, api.Message{Kind: 1, Heads: both, Want: both, Bloom: make([]byte, 8)}, bytesOf(api.Message{Kind: 1, Heads: both, Want: both, Bloom: make([]byte, 8)}))
}

// P7.1: hashes that rise, or fall, by any one of their bytes, whatever stands behind it; bytes are without a sign.
func TestOrderEveryByte(t *testing.T) {
	for i := range 32 {
		for _, c := range [][2]byte{{0, 1}, {1, 2}, {127, 128}, {0, 255}, {1, 255}} {
			low, high := api.Hash{}, api.Hash{}
			low[i], high[i] = c[0], c[1]
			for k := i + 1; k < 32; k++ {
				low[k] = 255
			}
			rising, falling := []api.Hash{low, high}, []api.Hash{high, low}
			wantBytes(t, api.Message{Kind: 2, Want: rising}, bytesOf(api.Message{Kind: 2, Want: rising}))
			wantError(t, api.Message{Kind: 2, Want: falling}, api.ErrOrder)
			wantBytes(t, api.Message{Kind: 1, Heads: rising, Bloom: make([]byte, 8)}, bytesOf(api.Message{Kind: 1, Heads: rising, Bloom: make([]byte, 8)}))
			wantError(t, api.Message{Kind: 1, Heads: falling, Bloom: make([]byte, 8)}, api.ErrOrder)
		}
	}
}

// P7.1: a digest of every number of bytes up to some behind the greatest, right and wrong.
func TestShape(t *testing.T) {
	b := bytes.Repeat([]byte{9}, 20000)
	right := []int{8, 16, 32, 64, 128, 256, 512, 1024, 2048, 4096, 8192}
	for n := range 20000 {
		m := api.Message{Kind: 1, Bloom: b[:n]}
		if slices.Contains(right, n) {
			wantBytes(t, m, bytesOf(m))
		} else {
			wantError(t, m, api.ErrShape)
		}
	}
}

// P7.1: blocks of no byte, of one, of MaxNode and of one more, at any place among others.
func TestBlockBytes(t *testing.T) {
	for at := range 4 {
		for _, n := range []int{0, 1, 127, 128, 16383, 16384, 1048575, 1048576, 1048577, 2097152, 3000000} {
			l := rowsOf(2, 3, 5, 7)
			l[at] = make([]byte, n)
			m := api.Message{Kind: 3, Blocks: l}
			if n == 0 || n > 1048576 {
				wantError(t, m, api.ErrBytes)
			} else {
				wantBytes(t, m, bytesOf(m))
			}
		}
	}
}

// P7.1: messages of just MaxMessage bytes, of one less and one more, of few blocks and of many; around those of 127 and 128 blocks how many they are takes another byte.
func TestMessageBytes(t *testing.T) {
	for _, c := range []struct{ count, n int }{
		{2, 1048570}, {3, 699047}, {4, 524280}, {17, 123000}, {126, 16000}, {127, 16500}, {128, 16000}, {128, 16384}, {129, 16200}, {255, 8000}, {256, 8000}, {256, 8189},
	} {
		for _, size := range []int{2097150, 2097151, 2097152} {
			m := api.Message{Kind: 3, Blocks: filling(c.count, c.n, size)}
			wantBytes(t, m, bytesOf(m))
		}
		for _, size := range []int{2097153, 2097154} {
			wantError(t, api.Message{Kind: 3, Blocks: filling(c.count, c.n, size)}, api.ErrBytes)
		}
	}
	wantError(t, api.Message{Kind: 3, Blocks: rows(2, 1048576)}, api.ErrBytes)
	big := make([]byte, 1048576)
	wantError(t, api.Message{Kind: 3, Blocks: slices.Repeat([][]byte{big}, 256)}, api.ErrBytes)
}

// P7.1: the greatest messages of the other kinds may be.
func TestGreatest(t *testing.T) {
	hello := api.Message{Kind: 1, Heads: hashes(4096), Salt: math.MaxUint64, Bloom: make([]byte, 8192), Want: hashes(4096)}
	wantBytes(t, hello, bytesOf(hello))
	wantBytes(t, api.Message{Kind: 2, Want: hashes(4096)}, bytesOf(api.Message{Kind: 2, Want: hashes(4096)}))
}

// P7.1: of several errors the first one is told: all kinds with fields of all sorts, right and wrong.
func TestFirstError(t *testing.T) {
	told := map[api.Errno]int{}
	lists := [][]api.Hash{nil, {h1}, {h0, h1}, {h1, h0}, make([]api.Hash, 4097), hashes(4096)}
	digests := [][]byte{nil, make([]byte, 8), make([]byte, 9), make([]byte, 16384)}
	blocks := [][][]byte{nil, {{1}}, {{1}, nil}, rows(257, 1), make([][]byte, 257), rows(2, 1048576), {make([]byte, 1048577)}}
	for kind := range 5 {
		for _, heads := range lists {
			for _, want := range lists {
				for _, digest := range digests {
					for _, rows := range blocks {
						for salt := range uint64(2) {
							told[wantWords(t, api.Message{Kind: kind, Heads: heads, Salt: salt, Bloom: digest, Want: want, Blocks: rows})]++
						}
					}
				}
			}
		}
	}
	for _, why := range []api.Errno{api.OK, api.ErrKind, api.ErrField, api.ErrMany, api.ErrArg, api.ErrOrder, api.ErrShape, api.ErrBytes} {
		if told[why] == 0 {
			t.Errorf("error %d is never told", why)
		}
	}
}

// P7.1: many messages, half of them with something turned in them, against the chapter's words.
func TestCheckWords(t *testing.T) {
	r := chance()
	told := map[api.Errno]int{}
	for range 20000 {
		m := someMessage(r)
		if r.IntN(2) == 0 {
			spoil(&m, r.IntN)
		}
		told[wantWords(t, m)]++
	}
	for _, why := range []api.Errno{api.OK, api.ErrKind, api.ErrField, api.ErrArg, api.ErrOrder, api.ErrShape, api.ErrBytes} {
		if told[why] < 100 {
			t.Errorf("error %d: only %d times", why, told[why])
		}
	}
}

// spoil turns something in a message.
func spoil(m *api.Message, chance func(int) int) {
	turn := func(l []api.Hash) {
		if len(l) > 0 {
			l[chance(len(l))] = l[chance(len(l))]
		}
	}
	switch chance(8) {
	case 0:
		m.Kind = chance(5)
	case 1:
		turn(m.Heads)
	case 2:
		turn(m.Want)
	case 3:
		m.Bloom = make([]byte, chance(20))
	case 4:
		m.Salt = uint64(chance(2))
	case 5:
		m.Blocks = m.Blocks[:0]
	case 6:
		if n := len(m.Blocks); n > 0 {
			m.Blocks[chance(n)] = nil
		}
	default:
		m.Blocks = append(m.Blocks, []byte{1})
	}
}
