package mesh_test

import (
	"fmt"
	"strings"
	"testing"

	"pleach/api"
)

// far tells numbers for a length, from its ends and round them to the least and greatest there are.
func far(length int) []int {
	out := []int{0, 1, -1, length, length - 1, length + 1, -length, 1 - length, -length - 1, 2 * length, 2*length - 1, -2 * length, -2*length - 1, 1 << 31, 1<<31 - 1, -1 << 31, 1 << 32, -1<<32 - 1, least, least + 1, least + length, most, most - 1, most - length}
	for n := -3 * length; n <= 3*length && length < 20; n++ {
		out = append(out, n)
	}
	return out
}

// P21.1: Flip turns the bits of by, and no others, of the byte whose number is counted round.
func TestFlipPlaces(t *testing.T) {
	for _, text := range []string{"a", "ab", "abc", "abcd", "abcdefg", "abcdefgh", strings.Repeat("pleach", 100)} {
		for _, place := range far(len(text)) {
			m := with(t, "one", text, "another")
			want := []byte(text)
			want[counted(place, len(text))] ^= 0x85
			wantE(t, "Flip", m.Flip(1, 2, 1, place, 0x85), api.OK)
			wantLeft(t, fmt.Sprintf("Flip at %d of %d bytes", place, len(text)), m, 1, 2, "one", string(want), "another")
		}
	}
}

// P21.1: Flip turns by each byte but 0; done once more, it turns back.
func TestFlipBy(t *testing.T) {
	for by := range 256 {
		m := with(t, "\x00\x5a\xff")
		want := api.OK
		if by == 0 {
			want = api.ErrArg
		}
		for place := range 3 {
			wantE(t, fmt.Sprint("Flip by ", by), m.Flip(1, 2, 0, place, byte(by)), want)
		}
		wantE(t, "Twice", m.Twice(1, 2, 0), api.OK)
		for place := range 3 {
			wantE(t, fmt.Sprint("Flip by ", by), m.Flip(1, 2, 1, place-3, byte(by)), want)
		}
		wantLeft(t, fmt.Sprint("Flip by ", by), m, 1, 2, string([]byte{byte(by), 0x5a ^ byte(by), 0xff ^ byte(by)}), "\x00\x5a\xff")
	}
}

// P21.1: of a message of no bytes Flip answers ErrArg, whatever the place, and it stays.
func TestFlipNothing(t *testing.T) {
	m := with(t, "", "a", "")
	for _, place := range far(3) {
		wantE(t, "Flip", m.Flip(1, 2, 0, place, 1), api.ErrArg)
		wantE(t, "Flip by 0", m.Flip(1, 2, 2, place, 0), api.ErrArg)
		wantE(t, "Flip by 0 of a byte", m.Flip(1, 2, 1, place, 0), api.ErrArg)
	}
	wantLeft(t, "Flip", m, 1, 2, "", "a", "")
}

// P21.1: Clip leaves the first bytes, as many as n counted round is: always fewer than there were.
func TestClip(t *testing.T) {
	for _, text := range []string{"a", "ab", "abc", "abcd", "abcdefg", "abcdefgh", strings.Repeat("pleach", 100)} {
		for _, n := range far(len(text)) {
			m := with(t, "one", text, "another")
			want := text[:counted(n, len(text))]
			wantE(t, "Clip", m.Clip(1, 2, 1, n), api.OK)
			wantLeft(t, fmt.Sprintf("Clip to %d of %d bytes", n, len(text)), m, 1, 2, "one", want, "another")
		}
	}
}

// P21.1: a message of no bytes stays as it is, whatever Clip asks; one that was clipped is counted round by the length that it has now.
func TestClipAgain(t *testing.T) {
	m := with(t, "", "abcdefg")
	for _, n := range far(5) {
		wantE(t, "Clip of no bytes", m.Clip(1, 2, 0, n), api.OK)
	}
	m.Clip(1, 2, 1, 5) // abcde
	m.Flip(1, 2, 1, -1, 0x20)
	m.Twice(1, 2, 1)
	m.Clip(1, 2, 1, 8) // abc
	m.Flip(1, 2, 1, 5, 0x20)
	m.Twice(1, 2, 1)
	m.Clip(1, 2, 1, -2) // a
	m.Twice(1, 2, 1)
	m.Clip(1, 2, 1, most) // a length of 1: no bytes are left
	m.Clip(1, 2, 1, most)
	wantE(t, "Flip", m.Flip(1, 2, 1, 0, 1), api.ErrArg)
	wantLeft(t, "Clip", m, 1, 2, "", "", "abcdE", "abC", "a")
}

// P21.2: what is taken is what was sent, but for Flip and Clip, whatever else befell it on the way.
func TestSpoiltAlone(t *testing.T) {
	m := with(t, "abc", "def", "ghi", "jkl")
	m.Flip(1, 2, 1, 0, 1)
	m.Swap(1, 2, 1, 3)
	m.Clip(1, 2, 2, 2)
	m.Drop(1, 2, 0)
	m.Twice(1, 2, 1)
	m.Swap(1, 2, 0, 3)
	wantLeft(t, "spoilt", m, 1, 2, "gh", "gh", "eef", "jkl")
}
