package value

import (
	"cmp"
	"math"
	"slices"
	"strings"
	"testing"

	"pleach/api"
	"pleach/scan"
)

func truth(n int) api.Value    { return api.Value{Kind: api.VBool, Num: n} }
func number(n int) api.Value   { return api.Value{Kind: api.VInt, Num: n} }
func text(s string) api.Value  { return api.Value{Kind: api.VText, Text: s} }
func long(n int) string        { return strings.Repeat("a", n) }
func isEmpty(v api.Value) bool { return v == api.Value{} }

// shape is a value, its bytes, and its word.
type shape struct {
	v           api.Value
	bytes, word string
}

// shapes are values that may be, the edges among them.
func shapes() []shape {
	return []shape{
		{truth(0), "\x01\x00", "false"},
		{truth(1), "\x01\x01", "true"},
		{number(0), "\x02\x00", "0"},
		{number(-1), "\x02\x01", "-1"},
		{number(1), "\x02\x02", "1"},
		{number(-120), "\x02\xef\x01", "-120"},
		{number(math.MaxInt), "\x02\xfe\xff\xff\xff\xff\xff\xff\xff\xff\x01", "9223372036854775807"},
		{number(math.MinInt), "\x02\xff\xff\xff\xff\xff\xff\xff\xff\xff\x01", "-9223372036854775808"},
		{text(""), "\x03\x00", "'"},
		{text("a"), "\x03\x01a", "'a"},
		{text("azAZ09-._"), "\x03\x09azAZ09-._", "'azAZ09-._"},
		{text("true"), "\x03\x04true", "'true"},
		{text("-1"), "\x03\x02-1", "'-1"},
		{text("a b"), "\x03\x03a b", "#612062"},
		{text("a "), "\x03\x02a ", "#6120"},
		{text("'"), "\x03\x01'", "#27"},
		{text("#"), "\x03\x01#", "#23"},
		{text("\x00\xff\n"), "\x03\x03\x00\xff\n", "#00ff0a"},
		{text("\u00e9"), "\x03\x02\xc3\xa9", "#c3a9"},
		{text(long(64)), "\x03\x40" + long(64), "'" + long(64)},
		{text(strings.Repeat("!", 64)), "\x03\x40" + strings.Repeat("!", 64), "#" + strings.Repeat("21", 64)},
	}
}

// wrong are values that may not be.
func wrong() []api.Value {
	return []api.Value{
		{},
		{Kind: 4}, {Kind: -1}, {Kind: 257}, {Kind: 258, Num: 1}, {Kind: 259, Text: "a"}, {Kind: math.MinInt}, {Kind: math.MaxInt},
		{Num: 1}, {Text: "a"},
		truth(2), truth(-1), truth(256), truth(257), truth(math.MinInt),
		{Kind: api.VBool, Text: "a"}, {Kind: api.VBool, Num: 1, Text: "true"},
		{Kind: api.VInt, Text: "a"}, {Kind: api.VInt, Num: 1, Text: "1"},
		text(long(65)), text(long(1000)),
		{Kind: api.VText, Num: 1}, {Kind: api.VText, Num: -1, Text: "a"},
	}
}

func TestP6_1_Check(t *testing.T) {
	for _, x := range shapes() {
		if e := Check(x.v); e != api.OK {
			t.Error(x.v, e)
		}
	}
	for _, v := range wrong() {
		if e := Check(v); e != api.ErrArg {
			t.Error(v, e)
		}
	}
}

func TestP6_1_Put(t *testing.T) {
	for _, x := range shapes() {
		if s, e := Put(x.v); s != x.bytes || e != api.OK {
			t.Errorf("%v: %x %v", x.v, s, e)
		}
	}
	for _, v := range wrong() {
		if s, e := Put(v); s != "" || e != api.ErrArg {
			t.Errorf("%v: %x %v", v, s, e)
		}
	}
}

// bad are bytes of no value: how many of them Read reads, and the error.
func bad() []struct {
	s  string
	at int
	e  api.Errno
} {
	return []struct {
		s  string
		at int
		e  api.Errno
	}{
		{"", 0, api.ErrForm},
		{"\x00", 1, api.ErrForm},
		{"\x00\x00", 1, api.ErrForm}, // of another Kind no more is read
		{"\x04\x01a", 1, api.ErrForm},
		{"\xff", 1, api.ErrForm},
		{"\x01", 1, api.ErrForm},
		{"\x01\x02", 2, api.ErrForm},
		{"\x01\xff", 2, api.ErrForm},
		{"\x02", 1, api.ErrForm},
		{"\x02\x80\x00", 1, api.ErrForm},
		{"\x02\xff\xff\xff\xff\xff\xff\xff\xff\xff\x02", 1, api.ErrForm},
		{"\x03", 1, api.ErrForm},
		{"\x03\x02a", 2, api.ErrForm},
		{"\x03\x81\x00a", 1, api.ErrForm},
		{"\x03\x40" + long(63), 2, api.ErrForm},
		{"\x03\x41" + long(65), 1, api.ErrLimit},
		{"\x03\xff\xff\xff\xff\xff\xff\xff\xff\xff\x01a", 1, api.ErrLimit},
	}
}

func TestP6_2_Read(t *testing.T) {
	for _, x := range shapes() {
		for _, behind := range []string{"", "\x00", "more"} {
			r := scan.New(x.bytes + behind)
			if v := Read(r); v != x.v || r.At() != len(x.bytes) || r.Err() != api.OK {
				t.Error(x.v, v, r.At(), r.Err())
			}
		}
	}
	all := ""
	for _, x := range shapes() {
		all += x.bytes
	}
	r := scan.New(all)
	for _, x := range shapes() {
		if v := Read(r); v != x.v {
			t.Error(x.v, v)
		}
	}
	if e := r.End(); e != api.OK {
		t.Error(e)
	}
}

func TestP6_2_ReadOfNone(t *testing.T) {
	for _, c := range bad() {
		r := scan.New(c.s)
		if v := Read(r); !isEmpty(v) || r.At() != c.at || r.Err() != c.e {
			t.Errorf("%x: %v, at %d, %v", c.s, v, r.At(), r.Err())
		}
	}
	for _, r := range []*scan.Scan{nil, {}} {
		if v := Read(r); !isEmpty(v) || r.Err() != api.ErrNil {
			t.Error(v, r.Err())
		}
	}
	r := scan.New("\x02\x02")
	r.Fail(api.ErrRot)
	if v := Read(r); !isEmpty(v) || r.At() != 0 || r.Err() != api.ErrRot {
		t.Error(v, r.At(), r.Err())
	}
}

func TestP6_2_Take(t *testing.T) {
	for _, x := range shapes() {
		if v, e := Take(x.bytes); v != x.v || e != api.OK {
			t.Error(x.v, v, e)
		}
		if v, e := Take(x.bytes + "\x00"); !isEmpty(v) || e != api.ErrForm {
			t.Error(x.v, v, e)
		}
		if v, e := Take(x.bytes[:len(x.bytes)-1]); !isEmpty(v) || e != api.ErrForm {
			t.Error(x.v, v, e)
		}
	}
	for _, c := range bad() {
		if v, e := Take(c.s); !isEmpty(v) || e != c.e {
			t.Errorf("%x: %v %v", c.s, v, e)
		}
	}
}

func TestP6_3_Compare(t *testing.T) {
	rising := []api.Value{
		{Kind: -1, Num: 9, Text: "z"}, {Num: math.MinInt}, {}, {Text: "a"},
		truth(0), truth(1), {Kind: api.VBool, Num: 1, Text: "a"}, truth(2),
		number(math.MinInt), number(-1), number(0), number(1), number(math.MaxInt),
		text(""), text("\x00"), text("B"), text("a"), text("a b"), text("ab"), text("b"), text("\xff"), {Kind: api.VText, Num: 1}, {Kind: 4},
	}
	for i, a := range rising {
		for j, b := range rising {
			if n := Compare(a, b); n != cmp.Compare(i, j) {
				t.Error(a, b, n)
			}
		}
	}
}

func TestP6_4_Show(t *testing.T) {
	for _, x := range shapes() {
		if s := Show(x.v); s != x.word {
			t.Errorf("%v: %q", x.v, s)
		}
	}
	for _, v := range wrong() {
		if s := Show(v); s != "" {
			t.Errorf("%v: %q", v, s)
		}
	}
	plain := "abcdefghijklmnopqrstuvwxyzABCDEFGHIJKLMNOPQRSTUVWXYZ0123456789-._"
	for i := range 256 {
		c := string([]byte{byte(i)})
		s := Show(text(c))
		if strings.Contains(plain, c) && s != "'"+c || !strings.Contains(plain, c) && (s[0] != '#' || len(s) != 3) {
			t.Errorf("%q: %q", c, s)
		}
	}
}

func TestP6_4_Parse(t *testing.T) {
	for _, x := range shapes() {
		if v, e := Parse(x.word); v != x.v || e != api.OK {
			t.Errorf("%q: %v %v", x.word, v, e)
		}
	}
	for _, s := range []string{
		"", " ", "TRUE", "True", "t", "true ", " true", "falsee", "1.0", "1e3", "0x10", "1_000", "a", "nil",
		"+1", "01", "-01", "00", "-0", "-", "--1", "+", " 1", "1 ", "1\n", "9223372036854775808", "-9223372036854775809", "99999999999999999999999999",
		"'a b", "'\u00e9", "''", "'#", "'" + long(65), "\"a\"",
		"#", "#6", "#61", "#616263", "#61206", "#6120GG", "#C3A9", "#0g", "# 21", "#" + strings.Repeat("21", 65), "#2D", "#2d", "#2e", "#5f",
	} {
		if v, e := Parse(s); !isEmpty(v) || e != api.ErrForm {
			t.Errorf("%q: %v %v", s, v, e)
		}
	}
}

func TestP6_5_TakeLeadsBackFromPut(t *testing.T) {
	for _, v := range many() {
		s, e := Put(v)
		if e != api.OK {
			t.Fatal(v, e)
		}
		if back, e := Take(s); back != v || e != api.OK {
			t.Error(v, back, e)
		}
	}
}

func TestP6_5_ParseLeadsBackFromShow(t *testing.T) {
	var words []string
	for _, v := range many() {
		s := Show(v)
		if back, e := Parse(s); back != v || e != api.OK {
			t.Errorf("%v: %q: %v %v", v, s, back, e)
		}
		words = append(words, s)
	}
	slices.Sort(words)
	if len(slices.Compact(words)) != len(many()) {
		t.Error("two values are shown as one word")
	}
}

func TestP6_5_WhatIsTakenPutIsThoseBytes(t *testing.T) {
	took := 0
	for i := range 1 << 18 { // texts of up to three bytes, of each Kind and beyond
		b := []byte{byte(i & 3), byte(i >> 2), byte(i >> 10)}
		for n := range len(b) + 1 {
			s := string(b[:n])
			v, e := Take(s)
			if e != api.OK {
				continue
			}
			took++
			if back, e := Put(v); back != s || e != api.OK {
				t.Fatalf("%x: %v: %x %v", s, v, back, e)
			}
		}
	}
	if took == 0 {
		t.Error("none was taken")
	}
}

// many are values that may be, each another one.
func many() []api.Value {
	l := []api.Value{truth(0), truth(1), text("")}
	for i := range 63 {
		l = append(l, number(1<<i), number(-1<<i))
	}
	l = append(l, number(0), number(math.MinInt), number(math.MaxInt))
	for i := range 256 {
		c := string([]byte{byte(i)})
		l = append(l, text(c), text("0"+c), text(c+"a"+c))
	}
	for n := 4; n <= api.MaxText; n++ {
		l = append(l, text(long(n)), text(strings.Repeat(" ", n)))
	}
	return l
}
