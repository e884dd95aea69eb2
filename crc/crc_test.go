package crc

import (
	"hash/crc32"
	"strings"
	"testing"
)

// texts are bytes of each kind, of lengths up to 130.
func texts() []string {
	l := []string{"", "\x00", "\xff", "123456789", strings.Repeat("\x00", 40), strings.Repeat("\xff", 40)}
	seed := uint32(1)
	for n := range 130 {
		b := make([]byte, n)
		for i := range b {
			seed = seed*1664525 + 1013904223
			b[i] = byte(seed >> 24)
		}
		l = append(l, string(b))
	}
	return l
}

// slow is the document's words, bit by bit.
func slow(s string) uint32 {
	reg := ^uint32(0)
	for i := range len(s) {
		for bit := range 8 {
			out := reg&1 ^ uint32(s[i])>>bit&1
			reg >>= 1
			if out == 1 {
				reg ^= 0xedb88320
			}
		}
	}
	return ^reg
}

func TestP2_1_Of(t *testing.T) {
	for s, want := range map[string]uint32{"": 0, "123456789": 0xcbf43926, "a": 0xe8b7be43, "abc": 0x352441c2} {
		if n := Of(s); n != want {
			t.Errorf("Of(%q) = %x", s, n)
		}
	}
	for _, s := range texts() {
		if n := Of(s); n != slow(s) || n != crc32.ChecksumIEEE([]byte(s)) {
			t.Errorf("Of(%x) = %x, want %x", s, n, slow(s))
		}
	}
	for i := range 256 {
		s := string([]byte{byte(i)})
		if Of(s) != slow(s) {
			t.Errorf("Of(%x) = %x, want %x", s, Of(s), slow(s))
		}
	}
}

func TestP2_1_Parts(t *testing.T) {
	if Of() != 0 || Of("", "") != 0 || On(0, "") != 0 || On(7, "") != 7 {
		t.Error("nothing has a sum")
	}
	const s = "123456789"
	for i := range len(s) + 1 {
		for j := i; j <= len(s); j++ {
			if n := Of(s[:i], s[i:j], s[j:]); n != 0xcbf43926 {
				t.Errorf("%q %q %q: %x", s[:i], s[i:j], s[j:], n)
			}
		}
		if n := On(Of(s[:i]), s[i:]); n != 0xcbf43926 {
			t.Errorf("%q, then %q: %x", s[:i], s[i:], n)
		}
	}
	parts := []string{"a", "b"}
	if Of(parts...) != Of("ab") || parts[0] != "a" || parts[1] != "b" {
		t.Error(parts)
	}
}

func TestP2_2_Seal(t *testing.T) {
	if s := Seal("123456789"); s != "123456789\x26\x39\xf4\xcb" {
		t.Errorf("%x", s)
	}
	if s := Seal(""); s != "\x00\x00\x00\x00" {
		t.Errorf("%x", s)
	}
}

func TestP2_2_Open(t *testing.T) {
	if s, ok := Open("123456789\x26\x39\xf4\xcb"); s != "123456789" || !ok {
		t.Error(s, ok)
	}
	if s, ok := Open("\x00\x00\x00\x00"); s != "" || !ok {
		t.Error(s, ok)
	}
	for _, s := range []string{
		"", "a", "\x00\x00\x00", "123", "1234", "\x00\x00\x00\x01", "\x00\x00\x00\x00\x00",
		"123456789\xcb\xf4\x39\x26", "123456789\x26\x39\xf4", "123456789\x26\x39\xf4\xcb\x00", "\x26\x39\xf4\xcb123456789",
	} {
		if x, ok := Open(s); x != "" || ok {
			t.Errorf("%x: %q %v", s, x, ok)
		}
	}
}

func TestP2_3_OpenLeadsBackFromSeal(t *testing.T) {
	for _, s := range texts() {
		if x, ok := Open(Seal(s)); x != s || !ok {
			t.Errorf("%x: %x %v", s, x, ok)
		}
	}
}

// turned is s with the bits of pattern turned, from the bit at on.
func turned(s string, at int, pattern uint32) string {
	b := []byte(s)
	for i := range 32 {
		if k := at + i; pattern>>i&1 == 1 && k < 8*len(b) {
			b[k/8] ^= 1 << (k % 8)
		}
	}
	return string(b)
}

func TestP2_3_WhatIsTurnedIsNotOpened(t *testing.T) {
	patterns := []uint32{1, 3, 0x80000001, 0xffffffff, 0xedb88321, 0xdb710641}
	for i := range uint32(200) {
		patterns = append(patterns, (i*2654435761)|1)
	}
	for _, s := range []string{"", "a", "123456789", strings.Repeat("\x00", 20)} {
		whole := Seal(s)
		for at := range 8 * len(whole) {
			for _, p := range patterns {
				if x, ok := Open(turned(whole, at, p)); x != "" || ok {
					t.Fatalf("%q, %x turned from bit %d on: %q %v", s, p, at, x, ok)
				}
			}
		}
	}
}
