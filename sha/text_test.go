package sha_test

import (
	"strings"
	"testing"

	"pleach/api"
	"pleach/sha"
)

// P1.4: where each half of each byte stands in the text.
func TestPrint(t *testing.T) {
	if got := sha.Print(api.Hash{}); got != strings.Repeat("0", 64) {
		t.Errorf("the zero hash: %s", got)
	}
	h := api.Hash{0x01, 0x23, 0x45, 0x67, 0x89, 0xab, 0xcd, 0xef, 31: 0xf0}
	if got, want := sha.Print(h), "0123456789abcdef"+strings.Repeat("0", 46)+"f0"; got != want {
		t.Errorf("%s, want %s", got, want)
	}
	for x := range 256 {
		for i := range 32 {
			h := api.Hash{}
			h[i] = byte(x)
			got := sha.Print(h)
			if len(got) != 64 || got[2*i] != "0123456789abcdef"[x/16] || got[2*i+1] != "0123456789abcdef"[x%16] || strings.Count(got, "0") < 62 {
				t.Fatalf("byte %d is %d: %s", i, x, got)
			}
			if back, e := sha.Parse(got); e != api.OK || back != h {
				t.Fatalf("Parse of byte %d, %d: %v", i, x, e)
			}
		}
	}
}

// P1.4, P1.5: texts and hashes, forth and back.
func TestParse(t *testing.T) {
	for text, want := range map[string]api.Hash{
		none:                    sha.Of(nil),
		abc:                     sha.Of([]byte("abc")),
		strings.Repeat("0", 64): {},
	} {
		if h, e := sha.Parse(text); e != api.OK || h != want {
			t.Errorf("Parse(%q): %v, %v", text, h, e)
		}
	}
	r := chance()
	for range 500 {
		h := api.Hash(someBytes(r, 32))
		if back, e := sha.Parse(sha.Print(h)); e != api.OK || back != h {
			t.Fatalf("Parse of Print of %v: %v, %v", h, back, e)
		}
	}
}

func wantNoHash(t *testing.T, text string) {
	t.Helper()
	if h, e := sha.Parse(text); e != api.ErrHex || h != (api.Hash{}) {
		t.Errorf("Parse(%q): %v, %v", text, h, e)
	}
}

// P1.4: texts that are no hash's.
func TestParseRefuses(t *testing.T) {
	for _, text := range []string{
		"", "0", " ",
		"E3" + none[2:], none[:63], none[1:], none + " ", " " + none, none + "0", none + none,
		" " + none[1:], none[:63] + " ", none[:63] + "\n", none[:63] + "\x00",
		"0x" + none, "0x" + none[2:], "+" + none[1:], "-" + none[1:],
		strings.ToUpper(abc),
		none[:62] + "é", "é" + none[1:], strings.Repeat("é", 32), strings.Repeat("0", 62) + "０",
	} {
		wantNoHash(t, text)
	}
	for n := range 200 {
		if n != 64 {
			wantNoHash(t, strings.Repeat("a", n))
		}
	}
}

// P1.4: of all bytes just sixteen are digits, at every place.
func TestParseEveryByte(t *testing.T) {
	for i := range 64 {
		for x := range 256 {
			b := []byte(none)
			b[i] = byte(x)
			if strings.IndexByte("0123456789abcdef", byte(x)) < 0 {
				wantNoHash(t, string(b))
			} else if h, e := sha.Parse(string(b)); e != api.OK || sha.Print(h) != string(b) {
				t.Errorf("Parse(%q): %v", b, e)
			}
		}
	}
}
