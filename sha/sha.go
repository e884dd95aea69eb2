// Package sha is layer 3: see ../../shared/doc/03-sha.md.
package sha

import (
	"math/bits"

	"pleach/api"
)

const (
	blockSize = 64 // bytes that are mixed in at once
	lenSize   = 8  // bytes of the length, at the last block's end
	rounds    = 64
	digits    = "0123456789abcdef"
)

// adds is what is added in each round: of the cube roots of the first primes the first 32 bits behind the point.
var adds = [rounds]uint32{
	0x428a2f98, 0x71374491, 0xb5c0fbcf, 0xe9b5dba5, 0x3956c25b, 0x59f111f1, 0x923f82a4, 0xab1c5ed5,
	0xd807aa98, 0x12835b01, 0x243185be, 0x550c7dc3, 0x72be5d74, 0x80deb1fe, 0x9bdc06a7, 0xc19bf174,
	0xe49b69c1, 0xefbe4786, 0x0fc19dc6, 0x240ca1cc, 0x2de92c6f, 0x4a7484aa, 0x5cb0a9dc, 0x76f988da,
	0x983e5152, 0xa831c66d, 0xb00327c8, 0xbf597fc7, 0xc6e00bf3, 0xd5a79147, 0x06ca6351, 0x14292967,
	0x27b70a85, 0x2e1b2138, 0x4d2c6dfc, 0x53380d13, 0x650a7354, 0x766a0abb, 0x81c2c92e, 0x92722c85,
	0xa2bfe8a1, 0xa81a664b, 0xc24b8b70, 0xc76c51a3, 0xd192e819, 0xd6990624, 0xf40e3585, 0x106aa070,
	0x19a4c116, 0x1e376c08, 0x2748774c, 0x34b0bcb5, 0x391c0cb3, 0x4ed8aa4a, 0x5b9cca4f, 0x682e6ff3,
	0x748f82ee, 0x78a5636f, 0x84c87814, 0x8cc70208, 0x90befffa, 0xa4506ceb, 0xbef9a3f7, 0xc67178f2,
}

// Hash is a sum on its way.
type Hash struct {
	made  bool
	words [api.Hash / 4]uint32
	block [blockSize]byte // what of the last block is there yet: count tells how much
	count int
}

// New begins a sum.
func New() *Hash {
	h := start()
	return &h
}

func start() Hash {
	return Hash{made: true, words: [api.Hash / 4]uint32{
		0x6a09e667, 0xbb67ae85, 0x3c6ef372, 0xa54ff53a, 0x510e527f, 0x9b05688c, 0x1f83d9ab, 0x5be0cd19,
	}}
}

func (h *Hash) isMade() bool { return h != nil && h.made }

// Put goes on.
func (h *Hash) Put(s string) api.Errno {
	if !h.isMade() {
		return api.ErrNil
	}
	h.add(s)
	return api.OK
}

// Len is how many bytes were put.
func (h *Hash) Len() int {
	if !h.isMade() {
		return 0
	}
	return h.count
}

// Sum is the sum of what was put so far.
func (h *Hash) Sum() string {
	if !h.isMade() {
		return ""
	}
	last := *h // more may be put behind what is summed here
	last.finish()
	return last.bytes()
}

// Sum is the sum of parts, one behind the other.
func Sum(parts ...string) string {
	h := start()
	for _, s := range parts {
		h.add(s)
	}
	h.finish()
	return h.bytes()
}

func (h *Hash) add(s string) {
	for len(s) > 0 {
		n := copy(h.block[h.count%blockSize:], s)
		s = s[n:]
		h.count += n
		if h.count%blockSize == 0 {
			h.mix()
		}
	}
}

// finish puts what stands behind all bytes: a bit 1, noughts, and how many bits there were, up to a block's end.
func (h *Hash) finish() {
	var end [blockSize + lenSize]byte
	end[0] = 0x80
	open := blockSize - (h.count+lenSize)%blockSize // at least one byte, for the bit 1
	for i := range lenSize {
		end[open+i] = byte(uint64(h.count) * 8 >> (8 * (lenSize - 1 - i)))
	}
	h.add(string(end[:open+lenSize]))
}

func (h *Hash) bytes() string {
	var b [api.Hash]byte
	for i := range b {
		b[i] = byte(h.words[i/4] >> (24 - i%4*8))
	}
	return string(b[:])
}

// mix takes in a block that is full.
func (h *Hash) mix() {
	w := h.spread()
	a, b, c, d := h.words[0], h.words[1], h.words[2], h.words[3]
	e, f, g, last := h.words[4], h.words[5], h.words[6], h.words[7]
	for i := range rounds {
		one := last + (right(e, 6) ^ right(e, 11) ^ right(e, 25)) + (e&f ^ ^e&g) + adds[i] + w[i]
		two := (right(a, 2) ^ right(a, 13) ^ right(a, 22)) + (a&b ^ a&c ^ b&c)
		a, b, c, d, e, f, g, last = one+two, a, b, c, d+one, e, f, g
	}
	for i, x := range [...]uint32{a, b, c, d, e, f, g, last} {
		h.words[i] += x
	}
}

// spread is the words of a block, and those that come of them, one a round.
func (h *Hash) spread() [rounds]uint32 {
	var w [rounds]uint32
	for i := range blockSize {
		w[i/4] = w[i/4]<<8 | uint32(h.block[i])
	}
	for i := blockSize / 4; i < rounds; i++ {
		x, y := w[i-15], w[i-2]
		w[i] = w[i-16] + (right(x, 7) ^ right(x, 18) ^ x>>3) + w[i-7] + (right(y, 17) ^ right(y, 19) ^ y>>10)
	}
	return w
}

// right turns a word round to the right.
func right(x uint32, by int) uint32 { return bits.RotateLeft32(x, -by) }

// Hex is bytes to the base 16.
func Hex(s string) string {
	b := make([]byte, 0, 2*len(s))
	for i := range len(s) {
		b = append(b, digits[s[i]>>4], digits[s[i]&15])
	}
	return string(b)
}

// Unhex is the bytes of digits.
func Unhex(s string) (string, bool) {
	if len(s)%2 != 0 {
		return "", false
	}
	b := make([]byte, 0, len(s)/2)
	for i := 0; i < len(s); i += 2 {
		high, low := digitOf(s[i]), digitOf(s[i+1])
		if high < 0 || low < 0 {
			return "", false
		}
		b = append(b, byte(high<<4|low))
	}
	return string(b), true
}

// digitOf is what a digit counts, or -1 of what is none.
func digitOf(c byte) int {
	switch {
	case '0' <= c && c <= '9':
		return int(c - '0')
	case 'a' <= c && c <= 'f':
		return int(c-'a') + 10
	}
	return -1
}
