// Package scan is layer 4: see ../../shared/doc/04-scan.md.
package scan

import (
	"pleach/api"
	"pleach/varint"
)

// Scan is bytes, how far they are read, and the first error.
type Scan struct {
	made bool
	text string
	at   int
	err  api.Errno
}

// New begins to read.
func New(s string) *Scan { return &Scan{made: true, text: s} }

// Err is the first error.
func (r *Scan) Err() api.Errno {
	if r == nil || !r.made {
		return api.ErrNil
	}
	return r.err
}

// At is how many bytes were read.
func (r *Scan) At() int {
	if r == nil {
		return 0
	}
	return r.at
}

// read takes off a piece, if there is no error yet: piece tells its size of all that is left, or why it can't be read.
func (r *Scan) read(piece func(left string) (int, api.Errno)) {
	if r.Err() != api.OK {
		return
	}
	size, e := piece(r.text[r.at:])
	if e != api.OK {
		r.err = e
		return
	}
	r.at += size
}

// Fix reads so many bytes.
func (r *Scan) Fix(n int) string {
	var s string
	r.read(func(left string) (int, api.Errno) {
		if n < 0 || n > len(left) {
			return 0, api.ErrForm
		}
		s = left[:n]
		return n, api.OK
	})
	return s
}

// Byte reads one byte.
func (r *Scan) Byte() int {
	s := r.Fix(1)
	if s == "" {
		return 0
	}
	return int(s[0])
}

// Num reads a number that is at most one.
func (r *Scan) Num(most int) int {
	var n int
	r.read(func(left string) (int, api.Errno) {
		u, size, ok := varint.Get(left)
		if !ok {
			return 0, api.ErrForm
		}
		if most < 0 || u > uint64(most) {
			return 0, api.ErrLimit
		}
		n = int(u)
		return size, api.OK
	})
	return n
}

// Int reads a number of either sign.
func (r *Scan) Int() int {
	var n int
	r.read(func(left string) (int, api.Errno) {
		i, size, ok := varint.GetInt(left)
		if !ok {
			return 0, api.ErrForm
		}
		n = i
		return size, api.OK
	})
	return n
}

// Text reads a text of at most so many bytes.
func (r *Scan) Text(most int) string { return r.Fix(r.Num(most)) }

// Rest reads all that is left.
func (r *Scan) Rest() string {
	var s string
	r.read(func(left string) (int, api.Errno) {
		s = left
		return len(left), api.OK
	})
	return s
}

// Fail is told that what was read may not be.
func (r *Scan) Fail(e api.Errno) {
	r.read(func(string) (int, api.Errno) { return 0, e })
}

// End tells that nothing may be left, and how it went.
func (r *Scan) End() api.Errno {
	r.read(func(left string) (int, api.Errno) {
		if left != "" {
			return 0, api.ErrForm
		}
		return 0, api.OK
	})
	return r.Err()
}

// PutNum is a number's bytes (of one below 0 those of 0).
func PutNum(n int) string { return varint.Put(uint64(max(n, 0))) }

// PutInt is those of a number of either sign.
func PutInt(n int) string { return varint.Int(n) }

// PutText is a text's bytes: how many it has, and these.
func PutText(s string) string { return PutNum(len(s)) + s }
