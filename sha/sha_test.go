package sha

import (
	"crypto/sha256"
	"strings"
	"testing"

	"pleach/api"
)

// text is n bytes of each kind.
func text(n int) string {
	b := make([]byte, n)
	seed := uint32(n)
	for i := range b {
		seed = seed*1664525 + 1013904223
		b[i] = byte(seed >> 24)
	}
	return string(b)
}

func known(s string) string {
	sum := sha256.Sum256([]byte(s))
	return string(sum[:])
}

func TestP3_1_Sum(t *testing.T) {
	for s, want := range map[string]string{
		"":    "e3b0c44298fc1c149afbf4c8996fb92427ae41e4649b934ca495991b7852b855",
		"abc": "ba7816bf8f01cfea414140de5dae2223b00361a396177a9cb410ff61f20015ad",
		"abcdbcdecdefdefgefghfghighijhijkijkljklmklmnlmnomnopnopq": "248d6a61d20638b8e5c026930c3e6039a33ce45964ff2167f6ecedd419db06c1",
		strings.Repeat("a", 1000000):                               "cdc76e5c9914fb9281a1c7e284d73e67f1809a48a497200e046d39ccc7112cd0",
	} {
		if sum := Sum(s); Hex(sum) != want || len(sum) != api.Hash {
			t.Errorf("%d bytes: %s", len(s), Hex(sum))
		}
	}
	for n := range 300 { // each place of a block at which bytes may end
		if s := text(n); Sum(s) != known(s) {
			t.Errorf("%d bytes: %s", n, Hex(Sum(s)))
		}
	}
}

func TestP3_1_Parts(t *testing.T) {
	if Sum() != known("") || Sum("", "") != known("") || Sum("a", "", "bc") != known("abc") {
		t.Error("parts")
	}
	if Sum("ab", "c") != Sum("a", "bc") || Sum("ab", "c") == Sum("c", "ab") {
		t.Error("parts are not one behind the other")
	}
	parts := []string{"a", "b"}
	if Sum(parts...) != known("ab") || parts[0] != "a" || parts[1] != "b" {
		t.Error(parts)
	}
}

func TestP3_2_Hash(t *testing.T) {
	h := New()
	if h.Len() != 0 || h.Sum() != known("") {
		t.Error(h.Len(), Hex(h.Sum()))
	}
	all := ""
	for n := range 150 {
		if e := h.Put(text(n)); e != api.OK {
			t.Fatal(e)
		}
		all += text(n)
		if h.Len() != len(all) {
			t.Fatal(h.Len(), len(all))
		}
		if h.Sum() != known(all) || h.Sum() != known(all) { // the first of both changes nothing
			t.Fatalf("%d bytes: %s", len(all), Hex(h.Sum()))
		}
	}
}

func TestP3_2_TwoHashes(t *testing.T) {
	a, b := New(), New()
	a.Put("a")
	b.Put("bc")
	a.Put("")
	if a.Sum() != known("a") || b.Sum() != known("bc") || a.Len() != 1 || b.Len() != 2 {
		t.Error("two of them know of one another")
	}
}

func TestP3_2_NoHash(t *testing.T) {
	var none *Hash
	for _, h := range []*Hash{none, {}} {
		if e := h.Put("a"); e != api.ErrNil {
			t.Error(e)
		}
		if h.Len() != 0 || h.Sum() != "" {
			t.Error(h.Len(), h.Sum())
		}
	}
}

func TestP3_3_Hex(t *testing.T) {
	for s, want := range map[string]string{"": "", "\x00": "00", "a b": "612062", "\x9f\xa0\xff\x0a": "9fa0ff0a"} {
		if h := Hex(s); h != want {
			t.Errorf("%x: %s", s, h)
		}
		if x, ok := Unhex(want); x != s || !ok {
			t.Errorf("%s: %x %v", want, x, ok)
		}
	}
}

func TestP3_3_UnhexOfNone(t *testing.T) {
	for _, s := range []string{
		"0", "000", "0G", "g0", "0g", "0A", "A0", "FF", "0/", "0:", "0`", "0@", ":0", " 00", "00 ", "0x", "00\x00\x00", "é", "0000zz", "zz0000", "-1", "+1", "0_",
	} {
		if x, ok := Unhex(s); x != "" || ok {
			t.Errorf("%q: %x %v", s, x, ok)
		}
	}
}

func TestP3_4_OneSumInWhateverPieces(t *testing.T) {
	for _, n := range []int{0, 1, 55, 56, 63, 64, 65, 119, 120, 128, 200} {
		s := text(n)
		for size := 1; size <= n+1; size++ {
			h := New()
			for i := 0; i < n; i += size {
				h.Put(s[i:min(i+size, n)])
			}
			if h.Sum() != known(s) || h.Len() != n {
				t.Fatalf("%d bytes, in pieces of %d: %s", n, size, Hex(h.Sum()))
			}
		}
		for i := range n + 1 {
			if Sum(s[:i], s[i:]) != known(s) {
				t.Fatalf("%d bytes, cut at %d", n, i)
			}
		}
	}
}

func TestP3_4_UnhexLeadsBackFromHex(t *testing.T) {
	for i := range 1 << 16 {
		s := string([]byte{byte(i), byte(i >> 8)})
		if x, ok := Unhex(Hex(s)); x != s || !ok {
			t.Fatalf("%x: %x %v", s, x, ok)
		}
	}
	if s := text(1000); len(Hex(s)) != 2000 {
		t.Error(len(Hex(s)))
	}
}
