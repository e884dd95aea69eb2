package scan

import (
	"math"
	"strings"
	"testing"

	"pleach/api"
)

// pieces are the reads of a Scan, each with what it answers where nothing is read.
func pieces() map[string]func(r *Scan) bool {
	return map[string]func(r *Scan) bool{
		"Fix":  func(r *Scan) bool { return r.Fix(1) == "" },
		"Fix0": func(r *Scan) bool { return r.Fix(0) == "" },
		"Byte": func(r *Scan) bool { return r.Byte() == 0 },
		"Num":  func(r *Scan) bool { return r.Num(math.MaxInt) == 0 },
		"Int":  func(r *Scan) bool { return r.Int() == 0 },
		"Text": func(r *Scan) bool { return r.Text(math.MaxInt) == "" },
		"Rest": func(r *Scan) bool { return r.Rest() == "" },
	}
}

// stands tells whether a Scan has this place and this error.
func stands(t *testing.T, r *Scan, at int, e api.Errno) {
	t.Helper()
	if r.At() != at || r.Err() != e {
		t.Errorf("at %d, %v; want %d, %v", r.At(), r.Err(), at, e)
	}
}

func TestP4_1_New(t *testing.T) {
	stands(t, New(""), 0, api.OK)
	stands(t, New("ab"), 0, api.OK)
	r, other := New("ab"), New("ab")
	r.Byte()
	stands(t, r, 1, api.OK)
	stands(t, other, 0, api.OK)
}

func TestP4_1_NothingIsReadBehindAnError(t *testing.T) {
	for name, nothing := range pieces() {
		for _, first := range []api.Errno{api.ErrForm, api.ErrLimit, api.ErrRot, -1, 99} {
			r := New("\x01\x01\x01\x01")
			r.Byte()
			r.Fail(first)
			if !nothing(r) {
				t.Errorf("%s reads behind %v", name, first)
			}
			stands(t, r, 1, first)
			if r.End() != first {
				t.Errorf("%s: %v", name, r.End())
			}
		}
	}
}

func TestP4_1_NoScan(t *testing.T) {
	for _, r := range []*Scan{nil, {}} {
		for name, nothing := range pieces() {
			if !nothing(r) {
				t.Errorf("%s reads of nothing", name)
			}
			stands(t, r, 0, api.ErrNil)
		}
		r.Fail(api.ErrForm)
		stands(t, r, 0, api.ErrNil)
		if r.End() != api.ErrNil {
			t.Error(r.End())
		}
	}
}

func TestP4_2_Fix(t *testing.T) {
	r := New("abcd")
	if s := r.Fix(0); s != "" {
		t.Error(s)
	}
	stands(t, r, 0, api.OK)
	if s := r.Fix(3); s != "abc" {
		t.Error(s)
	}
	stands(t, r, 3, api.OK)
	if s := r.Fix(1); s != "d" || r.Fix(0) != "" {
		t.Error(s)
	}
	stands(t, r, 4, api.OK)
	for _, n := range []int{-1, math.MinInt, 4, math.MaxInt} {
		r := New("abcd")
		r.Byte()
		if s := r.Fix(n); s != "" {
			t.Error(n, s)
		}
		stands(t, r, 1, api.ErrForm)
	}
}

func TestP4_2_Byte(t *testing.T) {
	r := New("a\x00\xff")
	if r.Byte() != 'a' || r.Byte() != 0 || r.Byte() != 255 {
		t.Error("bytes")
	}
	stands(t, r, 3, api.OK)
	if n := r.Byte(); n != 0 {
		t.Error(n)
	}
	stands(t, r, 3, api.ErrForm)
}

func TestP4_2_Num(t *testing.T) {
	const big = "\xff\xff\xff\xff\xff\xff\xff\xff\x7f" // the greatest int
	for _, c := range []struct {
		s       string
		most, n int
		e       api.Errno
	}{
		{"\x00", 0, 0, api.OK},
		{"\x05", 5, 5, api.OK},
		{"\x05", 4, 0, api.ErrLimit},
		{"\xac\x02", 300, 300, api.OK},
		{"\xac\x02", 299, 0, api.ErrLimit},
		{big, math.MaxInt, math.MaxInt, api.OK},
		{big, math.MaxInt - 1, 0, api.ErrLimit},
		{"\x80\x80\x80\x80\x80\x80\x80\x80\x80\x01", math.MaxInt, 0, api.ErrLimit},
		{"\xff\xff\xff\xff\xff\xff\xff\xff\xff\x01", math.MaxInt, 0, api.ErrLimit},
		{"\x00", -1, 0, api.ErrLimit},
		{"\x05", math.MinInt, 0, api.ErrLimit},
		{"\xff\xff\xff\xff\xff\xff\xff\xff\xff\x01", -1, 0, api.ErrLimit},
		{"", 9, 0, api.ErrForm},
		{"", -1, 0, api.ErrForm},
		{"\x80", 9, 0, api.ErrForm},
		{"\x80\x00", -1, 0, api.ErrForm},
		{"\xff\xff\xff\xff\xff\xff\xff\xff\xff\x02", 9, 0, api.ErrForm},
	} {
		r := New("x" + c.s)
		r.Byte()
		if n := r.Num(c.most); n != c.n {
			t.Errorf("%x, at most %d: %d", c.s, c.most, n)
		}
		at := 1
		if c.e == api.OK {
			at += len(c.s)
		}
		stands(t, r, at, c.e)
	}
}

func TestP4_2_Int(t *testing.T) {
	r := New("\x00\x01\x02\xff\xff\xff\xff\xff\xff\xff\xff\xff\x01")
	if r.Int() != 0 || r.Int() != -1 || r.Int() != 1 || r.Int() != math.MinInt {
		t.Error("numbers of either sign")
	}
	stands(t, r, 13, api.OK)
	for _, s := range []string{"", "\x80", "\x80\x00", strings.Repeat("\xff", 10)} {
		r := New("x" + s)
		r.Byte()
		if n := r.Int(); n != 0 {
			t.Error(n)
		}
		stands(t, r, 1, api.ErrForm)
	}
}

func TestP4_2_Text(t *testing.T) {
	for _, c := range []struct {
		s    string
		most int
		text string
		at   int
		e    api.Errno
	}{
		{"\x02abc", 5, "ab", 3, api.OK},
		{"\x02ab", 2, "ab", 3, api.OK},
		{"\x00", 0, "", 1, api.OK},
		{"\x02ab", 1, "", 0, api.ErrLimit},
		{"\x00", -1, "", 0, api.ErrLimit},
		{"\x03ab", 2, "", 0, api.ErrLimit},
		{"\x03ab", 3, "", 1, api.ErrForm}, // the number alone is read
		{"\xac\x02ab", 300, "", 2, api.ErrForm},
		{"", 5, "", 0, api.ErrForm},
		{"\x82\x00ab", 5, "", 0, api.ErrForm},
	} {
		r := New(c.s)
		if s := r.Text(c.most); s != c.text {
			t.Errorf("%x, at most %d: %q", c.s, c.most, s)
		}
		stands(t, r, c.at, c.e)
	}
}

func TestP4_2_Rest(t *testing.T) {
	r := New("abc")
	r.Byte()
	if s := r.Rest(); s != "bc" {
		t.Error(s)
	}
	stands(t, r, 3, api.OK)
	if s := r.Rest(); s != "" {
		t.Error(s)
	}
	stands(t, r, 3, api.OK)
}

func TestP4_2_Fail(t *testing.T) {
	r := New("a")
	r.Fail(api.OK)
	stands(t, r, 0, api.OK)
	r.Fail(api.ErrRot)
	stands(t, r, 0, api.ErrRot)
	r.Fail(api.ErrForm)
	r.Fail(api.OK)
	stands(t, r, 0, api.ErrRot)
	r = New("")
	r.Byte()
	r.Fail(api.ErrRot)
	stands(t, r, 0, api.ErrForm)
}

func TestP4_2_End(t *testing.T) {
	r := New("ab")
	if r.Fix(2) != "ab" || r.End() != api.OK || r.End() != api.OK {
		t.Error(r.Err())
	}
	if New("").End() != api.OK {
		t.Error("nothing is left of nothing")
	}
	r = New("ab")
	r.Byte()
	if r.End() != api.ErrForm {
		t.Error(r.End())
	}
	stands(t, r, 1, api.ErrForm)
	if n := r.Byte(); n != 0 {
		t.Error("read behind the end")
	}
	r = New("ab")
	r.Fail(api.ErrLimit)
	if r.End() != api.ErrLimit {
		t.Error(r.End())
	}
}

func TestP4_3_Puts(t *testing.T) {
	for n, want := range map[int]string{0: "\x00", -1: "\x00", math.MinInt: "\x00", 127: "\x7f", 300: "\xac\x02", math.MaxInt: "\xff\xff\xff\xff\xff\xff\xff\xff\x7f"} {
		if s := PutNum(n); s != want {
			t.Errorf("PutNum(%d) = %x", n, s)
		}
	}
	for n, want := range map[int]string{0: "\x00", -1: "\x01", 1: "\x02", -7: "\x0d", 150: "\xac\x02", math.MinInt: "\xff\xff\xff\xff\xff\xff\xff\xff\xff\x01"} {
		if s := PutInt(n); s != want {
			t.Errorf("PutInt(%d) = %x", n, s)
		}
	}
	for s, want := range map[string]string{"": "\x00", "xy": "\x02xy", "\x00": "\x01\x00"} {
		if got := PutText(s); got != want {
			t.Errorf("PutText(%q) = %x", s, got)
		}
	}
	if s := strings.Repeat("a", 300); PutText(s) != "\xac\x02"+s {
		t.Error("a long text")
	}
}

func TestP4_4_WhatWasPutIsRead(t *testing.T) {
	nums := []int{0, 1, 127, 128, 300, 1 << 32, math.MaxInt}
	texts := []string{"", "a", "\x00\x80\xff", strings.Repeat("xy", 100)}
	all := ""
	for _, n := range nums {
		all += PutNum(n) + PutInt(n) + PutInt(-n-1)
	}
	for _, s := range texts {
		all += PutText(s) + s
	}
	r := New(all + "rest")
	for _, n := range nums {
		if a, b, c := r.Num(n), r.Int(), r.Int(); a != n || b != n || c != -n-1 {
			t.Error(n, a, b, c)
		}
	}
	for _, s := range texts {
		if a, b := r.Text(len(s)), r.Fix(len(s)); a != s || b != s {
			t.Errorf("%q: %q %q", s, a, b)
		}
	}
	stands(t, r, len(all), api.OK)
	if r.Rest() != "rest" || r.End() != api.OK {
		t.Error(r.Err())
	}
}
