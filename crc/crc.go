// Package crc is layer 2: see ../../shared/doc/02-crc.md.
package crc

// sumSize is how many bytes a sum takes behind what is sealed.
const sumSize = 4

// turns is by what the register is turned while four bits, of each kind, go out: four at a time, as a table for eight would be a long one.
var turns = [16]uint32{
	0x00000000, 0x1db71064, 0x3b6e20c8, 0x26d930ac,
	0x76dc4190, 0x6b6b51f4, 0x4db26158, 0x5005713c,
	0xedb88320, 0xf00f9344, 0xd6d6a3e8, 0xcb61b38c,
	0x9b64c2b0, 0x86d3d2d4, 0xa00ae278, 0xbdbdf21c,
}

// On goes on with a sum.
func On(sum uint32, s string) uint32 {
	reg := ^sum // the last step of a sum is turned back
	for i := range len(s) {
		reg ^= uint32(s[i])
		reg = reg>>4 ^ turns[reg&15]
		reg = reg>>4 ^ turns[reg&15]
	}
	return ^reg
}

// Of is the sum of bytes.
func Of(parts ...string) uint32 {
	var sum uint32
	for _, s := range parts {
		sum = On(sum, s)
	}
	return sum
}

// Seal is bytes with their sum behind them.
func Seal(s string) string { return s + tail(s) }

func tail(s string) string {
	var b [sumSize]byte
	sum := Of(s)
	for i := range b {
		b[i] = byte(sum >> (8 * i))
	}
	return string(b[:])
}

// Open takes the sum off, if it is right.
func Open(s string) (string, bool) {
	at := len(s) - sumSize
	if at < 0 || s[at:] != tail(s[:at]) {
		return "", false
	}
	return s[:at], true
}
