package msg_test

import (
	"bytes"
	"encoding/binary"
	"encoding/hex"
	"fmt"
	"math/bits"
	"math/rand/v2"
	"slices"
	"strings"

	"pleach/api"
)

// What the chapter's words say of messages, told in another way than the package does.

const zeroHash = "0000000000000000000000000000000000000000000000000000000000000000"

var h0, h1 = api.Hash{}, api.Hash{31: 1}

// isDigest tells whether so many bytes may be a digest's.
func isDigest(n int) bool { return n >= 8 && n <= 8192 && bits.OnesCount(uint(n)) == 1 }

// rises tells whether hashes rise strictly.
func rises(l []api.Hash) bool {
	for i, h := range l {
		if i > 0 && bytes.Compare(l[i-1][:], h[:]) >= 0 {
			return false
		}
	}
	return true
}

// errorOf tells a message's error.
func errorOf(m api.Message) api.Errno {
	hello, want, blocks := m.Kind == 1, m.Kind == 2, m.Kind == 3
	if !hello && !want && !blocks {
		return api.ErrKind
	}
	if !hello && (len(m.Heads) != 0 || m.Salt != 0 || len(m.Bloom) != 0) || blocks && len(m.Want) != 0 || !blocks && len(m.Blocks) != 0 {
		return api.ErrField
	}
	if len(m.Heads) >= 4097 || len(m.Want) >= 4097 || len(m.Blocks) >= 257 {
		return api.ErrMany
	}
	if blocks && len(m.Blocks) == 0 {
		return api.ErrArg
	}
	if !rises(m.Heads) || !rises(m.Want) {
		return api.ErrOrder
	}
	if hello && !isDigest(len(m.Bloom)) {
		return api.ErrShape
	}
	for _, row := range m.Blocks {
		if len(row) == 0 || len(row) >= 1048577 {
			return api.ErrBytes
		}
	}
	if len(bytesOf(m)) >= 2097153 {
		return api.ErrBytes
	}
	return api.OK
}

// bytesOf tells the bytes of a message, of one that may not be, too, but for its Kind.
func bytesOf(m api.Message) []byte {
	b := []byte{byte(m.Kind)}
	hashes := func(l []api.Hash) {
		b = binary.AppendUvarint(b, uint64(len(l)))
		for _, h := range l {
			b = append(b, h[:]...)
		}
	}
	row := func(x []byte) { b = append(binary.AppendUvarint(b, uint64(len(x))), x...) }
	switch m.Kind {
	case 1:
		hashes(m.Heads)
		b = binary.LittleEndian.AppendUint64(b, m.Salt)
		row(m.Bloom)
		hashes(m.Want)
	case 2:
		hashes(m.Want)
	case 3:
		b = binary.AppendUvarint(b, uint64(len(m.Blocks)))
		for _, x := range m.Blocks {
			row(x)
		}
	}
	return b
}

// numberOf tells the number that a row begins with, its bytes, and what is wrong with it.
func numberOf(row []byte, most uint64) (uint64, int, api.Errno) {
	x := uint64(0)
	for i, c := range row {
		if i == 9 && c > 1 {
			return 0, 0, api.ErrOver
		}
		x += uint64(c%128) << (7 * i)
		if c >= 128 {
			continue
		}
		if i > 0 && c == 0 {
			return 0, 0, api.ErrLong
		}
		if x > most {
			return 0, 0, api.ErrOver
		}
		return x, i + 1, api.OK
	}
	return 0, 0, api.ErrShort
}

// cursor reads a row, and keeps the first thing that is wrong.
type cursor struct {
	row []byte
	at  int
	bad *api.Bad
}

func (c *cursor) fail(why api.Errno, at int) {
	if c.bad == nil {
		c.bad = &api.Bad{Why: why, At: at}
	}
}

func (c *cursor) number(most uint64) int {
	if c.bad != nil {
		return 0
	}
	x, size, why := numberOf(c.row[c.at:], most)
	if why != api.OK {
		c.fail(why, c.at)
		return 0
	}
	c.at += size
	return int(x)
}

func (c *cursor) raw(n int) []byte {
	if c.bad == nil && len(c.row)-c.at < n {
		c.fail(api.ErrShort, c.at)
	}
	if c.bad != nil {
		return make([]byte, n)
	}
	c.at += n
	return slices.Clone(c.row[c.at-n : c.at])
}

func (c *cursor) hashes(most uint64) []api.Hash {
	l := []api.Hash{}
	for range c.number(most) {
		at := c.at
		l = append(l, api.Hash(c.raw(32)))
		if c.bad == nil && !rises(l[max(0, len(l)-2):]) {
			c.fail(api.ErrOrder, at)
		}
		if c.bad != nil {
			return nil
		}
	}
	return l
}

// decodeOf tells what Decode should answer: a message, or what is wrong with a row of at most MaxMessage bytes.
func decodeOf(row []byte) (api.Message, *api.Bad) {
	c := &cursor{row: row}
	m := api.Message{Kind: int(c.raw(1)[0])}
	switch {
	case c.bad != nil:
	case m.Kind == 1:
		m.Heads = c.hashes(4096)
		m.Salt = binary.LittleEndian.Uint64(c.raw(8))
		at := c.at
		m.Bloom = c.raw(c.number(8192))
		if !isDigest(len(m.Bloom)) {
			c.fail(api.ErrShape, at)
		}
		m.Want = c.hashes(4096)
	case m.Kind == 2:
		m.Want = c.hashes(4096)
	case m.Kind == 3:
		m.Blocks = c.blocks()
	default:
		c.fail(api.ErrKind, 0)
	}
	if c.at < len(row) {
		c.fail(api.ErrRest, c.at)
	}
	if c.bad != nil {
		return api.Message{}, c.bad
	}
	return m, nil
}

func (c *cursor) blocks() [][]byte {
	begin := c.at
	count := c.number(256)
	if count == 0 {
		c.fail(api.ErrArg, begin)
	}
	l := [][]byte{}
	for range count {
		at := c.at
		l = append(l, c.raw(c.number(1048576)))
		if len(l[len(l)-1]) == 0 {
			c.fail(api.ErrBytes, at)
		}
	}
	return l
}

// sameMessage tells, without the package's help, whether two messages are the same.
func sameMessage(a, b api.Message) bool {
	return a.Kind == b.Kind && a.Salt == b.Salt && slices.Equal(a.Heads, b.Heads) && bytes.Equal(a.Bloom, b.Bloom) &&
		slices.Equal(a.Want, b.Want) && slices.EqualFunc(a.Blocks, b.Blocks, bytes.Equal)
}

// copyOf tells a message that shares no lists with it.
func copyOf(m api.Message) api.Message {
	m.Heads, m.Bloom, m.Want = slices.Clone(m.Heads), bytes.Clone(m.Bloom), slices.Clone(m.Want)
	m.Blocks = copyRows(m.Blocks)
	return m
}

func copyRows(l [][]byte) [][]byte {
	l = slices.Clone(l)
	for i, row := range l {
		l[i] = bytes.Clone(row)
	}
	return l
}

// chance tells numbers that look random, and are the same at every run.
func chance() *rand.Rand { return rand.New(rand.NewPCG(1, 2)) }

// one tells one of a list.
func one[T any](r *rand.Rand, of ...T) T { return of[r.IntN(len(of))] }

func someBytes(r *rand.Rand, n int) []byte {
	b := make([]byte, n)
	for i := range b {
		b[i] = byte(r.Uint32())
	}
	return b
}

// someHashes tells n hashes that rise, some by their last bytes alone.
func someHashes(r *rand.Rand, n int) []api.Hash {
	l := []api.Hash{}
	for i := range n {
		h := api.Hash{}
		if r.IntN(2) == 0 {
			h = api.Hash(someBytes(r, 32))
		}
		h[30], h[31] = byte(i>>8), byte(i)
		l = append(l, h)
	}
	slices.SortFunc(l, func(a, b api.Hash) int { return bytes.Compare(a[:], b[:]) })
	return l
}

// hashes tells n hashes that rise.
func hashes(n int) []api.Hash {
	l := make([]api.Hash, n)
	for i := range l {
		l[i] = api.Hash{0: byte(i >> 8), 31: byte(i)}
	}
	return l
}

// rowsOf tells rows of such lengths, no two alike.
func rowsOf(lengths ...int) [][]byte {
	l := make([][]byte, len(lengths))
	for i, n := range lengths {
		l[i] = bytes.Repeat([]byte{byte(i), byte(i >> 8), byte(n)}, n/3+1)[:n]
	}
	return l
}

// rows tells count rows of n bytes each.
func rows(count, n int) [][]byte { return rowsOf(slices.Repeat([]int{n}, count)...) }

// sizeOf tells how many bytes a message of blocks of such lengths has.
func sizeOf(lengths []int) int {
	size := 2
	if len(lengths) >= 128 {
		size = 3
	}
	for _, n := range lengths {
		size += n
		for ; n > 0; n /= 128 {
			size++
		}
	}
	return size
}

// filling tells count rows of which a message has just so many bytes, all but the last one of n bytes.
func filling(count, n, size int) [][]byte {
	lengths := slices.Repeat([]int{n}, count)
	for sizeOf(lengths) != size {
		lengths[count-1] += size - sizeOf(lengths)
	}
	return rowsOf(lengths...)
}

// someMessage tells a message that may be.
func someMessage(r *rand.Rand) api.Message {
	m := api.Message{Kind: 1 + r.IntN(3)}
	if m.Kind == 1 {
		m.Heads = someHashes(r, one(r, 0, 1, 2, 3, 5))
		m.Salt = r.Uint64() >> r.IntN(64)
		m.Bloom = someBytes(r, one(r, 8, 16, 32, 128))
	}
	if m.Kind < 3 {
		m.Want = someHashes(r, one(r, 0, 1, 2, 3, 5))
		return m
	}
	for range one(r, 1, 2, 3, 5, 20) {
		m.Blocks = append(m.Blocks, someBytes(r, one(r, 1, 2, 3, 10, 127, 128, 150)))
	}
	return m
}

// ofEachKind tells messages of each kind that may be, without much in them and with.
func ofEachKind() []api.Message {
	return []api.Message{
		{Kind: 1, Bloom: make([]byte, 8)},
		{Kind: 1, Heads: hashes(3), Salt: 0x0123456789abcdef, Bloom: bytes.Repeat([]byte{3}, 16), Want: hashes(2)},
		{Kind: 2},
		{Kind: 2, Want: hashes(3)},
		{Kind: 3, Blocks: rowsOf(1)},
		{Kind: 3, Blocks: rowsOf(2, 1, 130)},
	}
}

// fromHex tells bytes of their digits, with spaces between.
func fromHex(text string) []byte {
	b, err := hex.DecodeString(strings.ReplaceAll(text, " ", ""))
	if err != nil {
		panic(err)
	}
	return b
}

// show tells a message for a failure, as far as it has room.
func show(m api.Message) string {
	return fmt.Sprintf("kind %d, %d heads, salt %x, %d bytes of a digest, %d wanted, %d blocks: %.100x", m.Kind, len(m.Heads), m.Salt, len(m.Bloom), len(m.Want), len(m.Blocks), bytesOf(m))
}
