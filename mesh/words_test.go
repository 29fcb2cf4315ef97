package mesh_test

import (
	"fmt"
	"math"
	"math/big"
	"slices"
	"testing"

	"pleach/api"
	"pleach/mesh"
)

// What the chapter's words say of a mesh, told in another way than the package does: all messages of all links stand in one list, as texts, in the order of their coming, and each link's are found by going through it; numbers are counted round by the rule of whole numbers of any size.

// least and most are the ends of what a number of a call may be.
const (
	least = math.MinInt
	most  = math.MaxInt
)

// under is a message that is under way.
type under struct {
	from, to int
	text     string
}

// model is a mesh of n replicas.
type model struct {
	n   int
	all []under
}

// noLink tells whether there is no link between two.
func (m *model) noLink(from, to int) bool {
	return from < 1 || to < 1 || from > m.n || to > m.n || from == to
}

// places tells where the messages of a link stand in the list of all.
func (m *model) places(from, to int) []int {
	out := []int{}
	for i, x := range m.all {
		if x.from == from && x.to == to {
			out = append(out, i)
		}
	}
	return out
}

// texts tells the messages of a link.
func (m *model) texts(from, to int) []string {
	out := []string{}
	for _, at := range m.places(from, to) {
		out = append(out, m.all[at].text)
	}
	return out
}

// wrong tells the error of a call that names these messages of a link; else where they stand.
func (m *model) wrong(from, to int, numbers ...int) ([]int, api.Errno) {
	if m.noLink(from, to) {
		return nil, api.ErrArg
	}
	all, out := m.places(from, to), []int{}
	for _, i := range numbers {
		if i < 0 || i >= len(all) {
			return nil, api.ErrRange
		}
		out = append(out, all[i])
	}
	return out, api.OK
}

func (m *model) send(from, to int, text string) api.Errno {
	if m.noLink(from, to) {
		return api.ErrArg
	}
	if len(text) > 2097194 {
		return api.ErrBytes
	}
	if len(m.places(from, to)) == 1024 {
		return api.ErrMany
	}
	m.all = append(m.all, under{from, to, text})
	return api.OK
}

func (m *model) take(from, to int) (string, error) {
	if m.noLink(from, to) {
		return "", api.ErrArg
	}
	at := m.places(from, to)
	if len(at) == 0 {
		return "", mesh.ErrIdle
	}
	text := m.all[at[0]].text
	m.all = slices.Delete(m.all, at[0], at[0]+1)
	return text, nil
}

func (m *model) drop(from, to, i int) api.Errno {
	at, e := m.wrong(from, to, i)
	if e == api.OK {
		m.all = slices.Delete(m.all, at[0], at[0]+1)
	}
	return e
}

func (m *model) twice(from, to, i int) api.Errno {
	at, e := m.wrong(from, to, i)
	if e == api.OK {
		e = m.send(from, to, m.all[at[0]].text)
	}
	return e
}

func (m *model) swap(from, to, i, j int) api.Errno {
	at, e := m.wrong(from, to, i, j)
	if e == api.OK {
		m.all[at[0]], m.all[at[1]] = m.all[at[1]], m.all[at[0]]
	}
	return e
}

// counted counts a number round a length.
func counted(n, length int) int {
	return int(new(big.Int).Mod(big.NewInt(int64(n)), big.NewInt(int64(length))).Int64())
}

func (m *model) flip(from, to, i, place int, by byte) api.Errno {
	at, e := m.wrong(from, to, i)
	if e != api.OK {
		return e
	}
	text := m.all[at[0]].text
	if by == 0 || text == "" {
		return api.ErrArg
	}
	place = counted(place, len(text))
	m.all[at[0]].text = text[:place] + string([]byte{text[place] ^ by}) + text[place+1:]
	return api.OK
}

func (m *model) clip(from, to, i, n int) api.Errno {
	at, e := m.wrong(from, to, i)
	if e != api.OK || m.all[at[0]].text == "" {
		return e
	}
	text := m.all[at[0]].text
	m.all[at[0]].text = text[:counted(n, len(text))]
	return api.OK
}

func (m *model) clear(from, to int) api.Errno {
	if m.noLink(from, to) {
		return api.ErrArg
	}
	m.all = slices.DeleteFunc(m.all, func(x under) bool { return x.from == from && x.to == to })
	return api.OK
}

// made tells a mesh of n replicas.
func made(t *testing.T, n int) *mesh.Mesh {
	t.Helper()
	m, e := mesh.New(n)
	if m == nil || e != api.OK {
		t.Fatalf("New(%d): %v, %d", n, m, e)
	}
	return m
}

// with tells a mesh of two replicas, and lays these messages on its link from 1 to 2.
func with(t *testing.T, l ...string) *mesh.Mesh {
	t.Helper()
	m := made(t, 2)
	send(t, m, 1, 2, l...)
	return m
}

// send sends messages that have to be taken.
func send(t *testing.T, m *mesh.Mesh, from, to int, l ...string) {
	t.Helper()
	for _, text := range l {
		wantE(t, fmt.Sprintf("Send(%d, %d, %s)", from, to, short(text)), m.Send(from, to, []byte(text)), api.OK)
	}
}

// short tells a text; of a long one how many bytes it has.
func short(text string) string {
	if len(text) > 40 {
		return fmt.Sprintf("%q.. of %d bytes", text[:8], len(text))
	}
	return fmt.Sprintf("%q", text)
}

// wantE fails, if another error was told.
func wantE(t *testing.T, what string, e, want api.Errno) {
	t.Helper()
	if e != want {
		t.Errorf("%s: %d; want %d", what, e, want)
	}
}

// wantLeft takes all messages of a link, and fails, if they are others than these; then nothing is under way there.
func wantLeft(t *testing.T, what string, m *mesh.Mesh, from, to int, want ...string) {
	t.Helper()
	if n := m.Len(from, to); n != len(want) {
		t.Errorf("%s: %d are under way from %d to %d; want %d", what, n, from, to, len(want))
	}
	for i, text := range want {
		b, err := m.Take(from, to)
		if err != nil || string(b) != text {
			t.Errorf("%s: message %d from %d to %d is %s, %v; want %s", what, i, from, to, short(string(b)), err, short(text))
		}
		if n := m.Len(from, to); n != len(want)-i-1 {
			t.Errorf("%s: behind Take %d are under way; want %d", what, n, len(want)-i-1)
		}
	}
	wantIdle(t, what, m, from, to)
}

// wantIdle fails, if Take doesn't tell that nothing is under way.
func wantIdle(t *testing.T, what string, m *mesh.Mesh, from, to int) {
	t.Helper()
	if b, err := m.Take(from, to); b != nil || err != mesh.ErrIdle || m.Len(from, to) != 0 {
		t.Errorf("%s: from %d to %d: %q, %v, Len %d; want ErrIdle", what, from, to, b, err, m.Len(from, to))
	}
}

// pairs tells all pairs of two unlike replicas of 1 to n.
func pairs(n int) [][2]int {
	out := [][2]int{}
	for from := 1; from <= n; from++ {
		for to := 1; to <= n; to++ {
			if from != to {
				out = append(out, [2]int{from, to})
			}
		}
	}
	return out
}

// strangers tells pairs between which a mesh of n replicas has no link.
func strangers(n int) [][2]int {
	out := [][2]int{}
	for i := 1; i <= n; i++ {
		out = append(out, [2]int{i, i})
		for _, x := range []int{0, -1, -i, n + 1, n + 2, 8 + i, 9, 1 << 32, 1<<32 + i, -1<<32 + i, least, least + i, most} {
			if x < 1 || x > n {
				out = append(out, [2]int{i, x}, [2]int{x, i}, [2]int{x, x}, [2]int{x, n + 1})
			}
		}
	}
	return out
}
