package roll

import (
	"math"
	"strings"
	"testing"
)

// byHand is the sum that the words of P17.1 tell.
func byHand(fed string) uint32 {
	sum := uint32(0)
	for i := max(0, len(fed)-8); i < len(fed); i++ {
		x := (uint32(fed[i]) + 1) * 0x9e3779b1
		for range len(fed) - 1 - i {
			x *= 0x01000193
		}
		sum += x
	}
	return sum
}

// fed is a Roll that was fed the bytes of a text.
func fed(s string) *Roll {
	r := &Roll{}
	for _, b := range []byte(s) {
		r.Feed(b)
	}
	return r
}

// noise is so many bytes in no order to be seen.
func noise(n int, seed uint32) string {
	var b []byte
	for range n {
		seed = seed*1664525 + 1013904223
		b = append(b, byte(seed>>24))
	}
	return string(b)
}

func TestP17_1_Sum(t *testing.T) {
	for s, want := range map[string]uint32{
		"":         0,
		"\x00":     0x9e3779b1,
		"\x01":     0x3c6ef362,
		"\xff":     0x3779b100,
		"\x00\x00": 0x608c0b54, // 9e3779b1 times 01000194
		"a":        0x913c95c2,
	} {
		if got := fed(s).Sum(); got != want {
			t.Errorf("%q: %08x, want %08x", s, got, want)
		}
	}
}

func TestP17_1_SumBehindEachByte(t *testing.T) {
	for _, s := range []string{noise(300, 1), noise(40, 2), strings.Repeat("\x00", 30), strings.Repeat("\xff", 30), "abcdefghijklmnopqrstuvwxyz", strings.Repeat("\x00\xff", 20)} {
		var r Roll
		for i := range len(s) {
			if got, want := r.Sum(), byHand(s[:i]); got != want {
				t.Errorf("%q: %08x, want %08x", s[:i], got, want)
			}
			r.Feed(s[i])
		}
		if got, want := r.Sum(), byHand(s); got != want {
			t.Errorf("%q: %08x, want %08x", s, got, want)
		}
	}
}

func TestP17_1_NoRoll(t *testing.T) {
	var r *Roll
	r.Feed('a')
	if r.Sum() != 0 {
		t.Error(r.Sum())
	}
}

func TestP17_1_RollsAreApart(t *testing.T) {
	a := fed("abcdefghij")
	b := *a
	a.Feed('x')
	if b.Sum() != byHand("abcdefghij") || a.Sum() != byHand("abcdefghijx") {
		t.Errorf("%08x %08x", a.Sum(), b.Sum())
	}
	b.Feed('y')
	if b.Sum() != byHand("abcdefghijy") || a.Sum() != byHand("abcdefghijx") || new(Roll).Sum() != 0 {
		t.Errorf("%08x %08x", a.Sum(), b.Sum())
	}
}

func TestP17_2_Of(t *testing.T) {
	for _, key := range []string{"", "a", "\x00", "\xff\xff", "1234567", "12345678", "123456789", "日本語", noise(64, 3), noise(3000, 4)} {
		for level, lowest := range map[int]byte{0: 0, 1: 1, 40: 40, 255: 255, 256: 0, 257: 1, -1: 255, -255: 1, math.MaxInt: 255, math.MinInt: 0} {
			want := byHand(key + string([]byte{lowest}))
			if got := Of(level, key); got != want {
				t.Errorf("Of(%d, %.20q) = %08x, want %08x", level, key, got, want)
			}
		}
	}
}

func TestP17_2_Hits(t *testing.T) {
	hits := 0
	for i := range uint32(4000) {
		key, level := noise(int(i%70), i), int(i%41)
		sum := Of(level, key)
		half := sum>>16 ^ sum&0xffff                   // the lower half, when the upper one lies over it
		low := (sum&0xffff0000 | half) >> 8 & 0xff     // the lowest byte of the upper 24 bits
		want := (half^low)&1 == 1 && (half^low)&2 == 2 // both
		if got := Hits(level, key); got != want {
			t.Errorf("Hits(%d, %q) = %v: %08x", level, key, got, sum)
		}
		if want {
			hits++
		}
	}
	if hits < 900 || hits > 1100 { // about one of four
		t.Error(hits)
	}
}

func TestP17_2_HitsOfSome(t *testing.T) {
	for level, want := range map[int]string{0: "cnsx", 1: "cgjnoty"} {
		got := ""
		for b := byte('a'); b <= 'z'; b++ {
			if Hits(level, string(b)) {
				got += string(b)
			}
		}
		if got != want {
			t.Errorf("%d: %q, want %q", level, got, want)
		}
	}
}

func TestP17_3_WhatWasFedAheadPlaysNoPart(t *testing.T) {
	for _, last := range []string{"12345678", strings.Repeat("\x00", 8), strings.Repeat("\xff", 8), noise(8, 7), noise(20, 8)} {
		want := fed(last).Sum()
		for _, ahead := range []string{"x", "\x00", "\xff", last, noise(7, 9), noise(8, 10), noise(1000, 11)} {
			if got := fed(ahead + last).Sum(); got != want {
				t.Errorf("%.20q %q: %08x, want %08x", ahead, last, got, want)
			}
		}
		for level := range 41 { // of a key its last seven bytes
			if key := "ahead" + last; Of(level, key) != Of(level, key[len(key)-7:]) || Hits(level, key) != Hits(level, key[len(key)-7:]) {
				t.Errorf("%d %q", level, key)
			}
		}
	}
	if fed("x2345678").Sum() == fed("y2345678").Sum() || fed("2345678").Sum() == fed("x2345678").Sum() { // the eighth does
		t.Error("the eighth byte")
	}
}
