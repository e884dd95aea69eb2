// Package varint is layer 1: see ../../shared/doc/01-varint.md.
package varint

import "math/bits"

const (
	digit   = 7          // bits of the number in each byte
	more    = 1 << digit // stands in all bytes but the last
	longest = 10         // bytes of 2^64 - 1
)

// Put is a number's bytes.
func Put(n uint64) string { return string(grow(nil, n)) }

func grow(b []byte, n uint64) []byte {
	for n >= more {
		b = append(b, byte(n)|more)
		n >>= digit
	}
	return append(b, byte(n))
}

// Size is how many bytes a number has.
func Size(n uint64) int {
	return (bits.Len64(n|1) + digit - 1) / digit // 0 has a digit too
}

// Get is the number with which bytes begin, and how many bytes it has.
func Get(s string) (n uint64, size int, ok bool) {
	for i := range min(len(s), longest) {
		b := uint64(s[i])
		if b >= more {
			n |= (b - more) << (digit * i)
			continue
		}
		if mayEnd(b, i) {
			return n | b<<(digit*i), i + 1, true
		}
		break
	}
	return 0, 0, false
}

// mayEnd tells whether b may be the last digit, at place i: a 0 there would tell the number in more bytes than it needs, and of the 64 bits just one is left for the longest number's last.
func mayEnd(b uint64, i int) bool {
	return (b > 0 || i == 0) && (b <= 1 || i < longest-1)
}

// Zig lays numbers of both signs beside each other: 0, -1, 1, -2, 2, and so on.
func Zig(n int) uint64 {
	if n < 0 {
		return ^(uint64(n) << 1)
	}
	return uint64(n) << 1
}

// Zag leads back from it.
func Zag(u uint64) int {
	half := int(u >> 1)
	if u&1 == 1 {
		return ^half
	}
	return half
}

// Int is the bytes of a number of either sign.
func Int(n int) string { return Put(Zig(n)) }

// GetInt takes it.
func GetInt(s string) (n, size int, ok bool) {
	u, size, ok := Get(s)
	return Zag(u), size, ok
}

// Row is the bytes of numbers, one behind the other.
func Row(l ...uint64) string {
	var b []byte
	for _, n := range l {
		b = grow(b, n)
	}
	return string(b)
}

// Rows takes so many numbers.
func Rows(s string, count int) (l []uint64, size int, ok bool) {
	if count > len(s) { // each takes a byte at least: no room is made for what can't be there
		return nil, 0, false
	}
	for range count {
		n, k, there := Get(s[size:])
		if !there {
			return nil, 0, false
		}
		l = append(l, n)
		size += k
	}
	return l, size, true
}
