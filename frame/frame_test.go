package frame

import (
	"slices"
	"strings"
	"testing"

	"pleach/api"
	"pleach/crc"
	"pleach/scan"
)

// most is a text that may just be framed, and long one that may not.
func most() string { return strings.Repeat("m", 1<<16) }
func long() string { return strings.Repeat("l", 1<<16+1) }

// byHand is the frame that the words of P14.1 tell, of whatever text.
func byHand(s string) string { return scan.PutText(crc.Seal(s)) }

// texts are such as may be framed; at some of their lengths the length in front takes one byte more.
func texts() []string {
	l := []string{"a", "\x00", "bc", "\xff\xfe", strings.Repeat("\x00", 4), most(), byHand("a"), most()[1:]}
	for _, n := range []int{122, 123, 124, 125, 127, 128, 16379, 16380, 65532} {
		l = append(l, strings.Repeat("t", n))
	}
	return l
}

func row(t *testing.T, l ...string) string {
	t.Helper()
	s, e := Row(l...)
	if e != api.OK {
		t.Fatal(e)
	}
	return s
}

// no are bytes that begin with no frame.
func no() map[string]string {
	a := byHand("a")
	turned := func(i int) string { return a[:i] + string([]byte{a[i] ^ 1}) + a[i+1:] }
	return map[string]string{
		"nothing":               "",
		"a length alone":        a[:1],
		"no sum":                "\x01a",
		"a frame of nothing":    byHand(""),
		"too few bytes":         a[:5],
		"another byte":          turned(1),
		"another sum":           turned(2),
		"another end of it":     turned(5),
		"a length less":         "\x04" + a[1:],
		"a length more":         "\x06" + a[1:] + "x",
		"a length of two bytes": "\x85\x00" + a[1:],
		"too long a text":       byHand(long()),
		"a huge length":         "\xff\xff\xff\xff\xff\xff\xff\xff\xff\x01" + a[1:],
		"a sum the other way":   "\x05a" + string([]byte{a[5], a[4], a[3], a[2]}),
		"a byte ahead":          "x" + a,
	}
}

func TestP14_1_Check(t *testing.T) {
	for _, s := range texts() {
		if e := Check(s); e != api.OK {
			t.Error(len(s), e)
		}
	}
	for s, want := range map[string]api.Errno{"": api.ErrArg, long(): api.ErrLimit, long() + long(): api.ErrLimit} {
		if e := Check(s); e != want {
			t.Error(len(s), e, want)
		}
		if f, e := Put(s); f != "" || e != want {
			t.Error(len(s), len(f), e, want)
		}
	}
}

func TestP14_1_Put(t *testing.T) {
	sum := crc.Of("a")
	want := string([]byte{5, 'a', byte(sum), byte(sum >> 8), byte(sum >> 16), byte(sum >> 24)})
	if f, e := Put("a"); f != want || len(f) != 6 || e != api.OK {
		t.Errorf("%x %v, want %x", f, e, want)
	}
	for _, s := range texts() {
		if f, e := Put(s); f != byHand(s) || e != api.OK {
			t.Error(len(s), len(f), e)
		}
	}
}

func TestP14_1_Row(t *testing.T) {
	if s, e := Row(); s != "" || e != api.OK {
		t.Error(s, e)
	}
	if s := row(t, "a", "bc", "a"); s != byHand("a")+byHand("bc")+byHand("a") {
		t.Errorf("%x", s)
	}
	want := ""
	for _, s := range texts() {
		want += byHand(s)
	}
	l := texts()
	if s := row(t, l...); s != want || !slices.Equal(l, texts()) {
		t.Error(len(s), len(want))
	}
	for _, c := range []struct {
		l    []string
		want api.Errno
	}{
		{[]string{""}, api.ErrArg},
		{[]string{"a", ""}, api.ErrArg},
		{[]string{"a", long(), "b"}, api.ErrLimit},
		{[]string{"", long()}, api.ErrArg}, // the first one
		{[]string{"a", long(), ""}, api.ErrLimit},
	} {
		if s, e := Row(c.l...); s != "" || e != c.want {
			t.Error(len(s), e, c.want)
		}
	}
}

func TestP14_1_Size(t *testing.T) {
	if n := Size(); n != 0 {
		t.Error(n)
	}
	for _, s := range append(texts(), "", long(), long()+long()) { // of those that may not be framed, too
		if n := Size(s); n != len(byHand(s)) {
			t.Error(len(s), n, len(byHand(s)))
		}
		if n := Size("", s, s, "ab"); n != 5+2*len(byHand(s))+7 {
			t.Error(len(s), n)
		}
	}
	if n := Size(texts()...); n != len(row(t, texts()...)) {
		t.Error(n)
	}
}

func TestP14_2_Read(t *testing.T) {
	r := scan.New(row(t, texts()...) + "behind")
	at := 0
	for _, want := range texts() {
		at += len(byHand(want))
		if s := Read(r); s != want || r.At() != at || r.Err() != api.OK {
			t.Error(len(s), len(want), r.At(), at, r.Err())
		}
	}
	if s := r.Rest(); s != "behind" {
		t.Error(s)
	}
}

func TestP14_2_ReadOfNone(t *testing.T) {
	a := byHand("a")
	for _, c := range []struct {
		s    string
		at   int
		want api.Errno
	}{
		// what is no Text; of one that ends too early the number is read
		{"", 0, api.ErrForm},
		{a[:5], 1, api.ErrForm},
		{"\x85\x00" + a[1:], 0, api.ErrForm},
		{byHand(long()), 0, api.ErrLimit},
		{"\x85\x80\x04" + long() + "abcd", 0, api.ErrLimit},
		{"\x84\x80\x04" + long(), 3, api.ErrForm},
		// what is one, and is read, but not taken
		{"\x84\x80\x04" + long() + "abc", 3 + 1<<16 + 4, api.ErrForm},
		{byHand(""), 5, api.ErrForm},
		{"\x04\x00\x00\x00\x00", 5, api.ErrForm},
		{"\x00" + a, 1, api.ErrForm},
		{"\x03abc" + a, 4, api.ErrForm},
		{"\x05abbbb" + a, 6, api.ErrForm},
		{a[:5] + string([]byte{a[5] ^ 128}), 6, api.ErrForm},
		{"\x06" + a[1:] + "\x00", 7, api.ErrForm},
	} {
		r := scan.New(c.s)
		if s := Read(r); s != "" || r.At() != c.at || r.Err() != c.want {
			t.Errorf("%.20q: %q, at %d, %v; want %d, %v", c.s, s, r.At(), r.Err(), c.at, c.want)
		}
	}
}

func TestP14_2_ReadBehindAnError(t *testing.T) {
	for _, r := range []*scan.Scan{nil, {}} {
		if s := Read(r); s != "" || r.Err() != api.ErrNil || r.At() != 0 {
			t.Error(s, r.Err(), r.At())
		}
	}
	r := scan.New(row(t, "a", "b"))
	Read(r)
	r.Fail(api.ErrRot)
	if s := Read(r); s != "" || r.Err() != api.ErrRot || r.At() != 6 {
		t.Error(s, r.Err(), r.At())
	}
}

func TestP14_2_Take(t *testing.T) {
	for _, want := range texts() {
		for _, behind := range []string{"", "x", "\x00", byHand("b"), long()} {
			if s, n, e := Take(byHand(want) + behind); s != want || n != len(byHand(want)) || e != api.OK {
				t.Error(len(want), len(behind), len(s), n, e)
			}
		}
	}
	for what, f := range no() {
		if s, n, e := Take(f); s != "" || n != 0 || e != api.ErrForm {
			t.Error(what, len(s), n, e)
		}
	}
}

func TestP14_2_TakeOfATurnedBit(t *testing.T) {
	for _, text := range []string{"a", "\x00\x00\x00\x00", strings.Repeat("ab", 80)} {
		f := []byte(byHand(text))
		for i := range 8 * len(f) {
			f[i/8] ^= 1 << (i % 8)
			if s, n, e := Take(string(f)); s != "" || n != 0 || e != api.ErrForm {
				t.Errorf("%.5q, bit %d: %q %d %v", text, i, s, n, e)
			}
			f[i/8] ^= 1 << (i % 8)
		}
	}
}

func TestP14_2_Whole(t *testing.T) {
	if l, n := Whole(""); l != nil || n != 0 {
		t.Error(l, n)
	}
	front := row(t, "a", "bc")
	for what, behind := range no() {
		for _, l := range [][]string{nil, {"a", "bc"}} {
			s := row(t, l...)
			if got, n := Whole(s + behind); !slices.Equal(got, l) || (l == nil) != (got == nil) || n != len(s) {
				t.Error(what, got, n)
			}
		}
	}
	if l, n := Whole(front + byHand("") + byHand("d")); !slices.Equal(l, []string{"a", "bc"}) || n != 13 { // what stands behind what is none is not looked at
		t.Error(l, n)
	}
}

func TestP14_2_All(t *testing.T) {
	if l, e := All(""); l != nil || e != api.OK {
		t.Error(l, e)
	}
	front := row(t, "a", "bc")
	for what, behind := range no() {
		if behind == "" {
			continue
		}
		if l, e := All(behind); l != nil || e != api.ErrForm {
			t.Error(what, l, e)
		}
		if l, e := All(front + behind); l != nil || e != api.ErrForm {
			t.Error(what, l, e)
		}
	}
	for i := 1; i < len(front); i++ {
		if l, e := All(front[:i]); i != len(byHand("a")) && (l != nil || e != api.ErrForm) {
			t.Error(i, l, e)
		}
	}
}

func TestP14_3_AllLeadsBack(t *testing.T) {
	for _, l := range [][]string{nil, {"a"}, {"a", "a"}, {"b", "a"}, texts(), slices.Repeat([]string{"xy", "\x00"}, 2000)} {
		got, e := All(row(t, l...))
		if !slices.Equal(got, l) || e != api.OK {
			t.Error(len(l), len(got), e)
		}
	}
}

func TestP14_3_WholeBeginsWithTheFront(t *testing.T) {
	behind := []string{"x", byHand("more"), byHand("more") + "x", strings.Repeat("\xff", 20), strings.Repeat("\x00", 128), byHand("b")[:3]}
	for _, s := range no() {
		behind = append(behind, s)
	}
	for _, l := range [][]string{{"a"}, {"b", "a", "b"}, texts()} {
		s := row(t, l...)
		for _, b := range behind {
			got, n := Whole(s + b)
			if len(got) < len(l) || !slices.Equal(got[:len(l)], l) || n != Size(got...) || (s + b)[:n] != row(t, got...) {
				t.Error(len(l), len(got), n)
			}
		}
	}
}
