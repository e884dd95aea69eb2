package delta

import (
	"math"
	"slices"
	"strings"
	"testing"

	"pleach/api"
)

func long(n int) string { return strings.Repeat("a", n) }

func copied8(at int) api.Piece { return api.Piece{Copy: true, At: at, Len: 8} }

func own(s string) api.Piece { return api.Piece{Len: len(s), Own: s} }

// texts are n texts of a few letters, of which many have parts in common.
func texts(n int) []string {
	var l []string
	seed := uint32(n)
	next := func(below int) int {
		seed = seed*1664525 + 1013904223
		return int(seed>>16) % below
	}
	for range n {
		var b []byte
		for range next(60) {
			b = append(b, byte('a'+next(2)))
		}
		if len(l) > 0 {
			other := l[next(len(l))]
			b = append(b, other[next(len(other)+1):]...)
		}
		l = append(l, string(b))
	}
	return l
}

// slow is what Pieces must tell, by its words.
func slow(base, text string) []api.Piece {
	var l []api.Piece
	for i := 0; i < len(text); {
		at := -1
		if i+8 <= len(text) {
			at = strings.Index(base, text[i:i+8])
		}
		if at >= 0 {
			n := 8
			for at+n < len(base) && i+n < len(text) && base[at+n] == text[i+n] {
				n++
			}
			l = append(l, api.Piece{Copy: true, At: at, Len: n})
			i += n
			continue
		}
		if k := len(l) - 1; k >= 0 && !l[k].Copy {
			l[k] = own(l[k].Own + text[i:i+1])
		} else {
			l = append(l, own(text[i:i+1]))
		}
		i++
	}
	return l
}

// may are pieces that may be, the edges among them.
func may() []api.Piece {
	return []api.Piece{
		copied8(0), {Copy: true, Len: 1}, {Copy: true, At: 1, Len: 1 << 16}, {Copy: true, At: 1 << 16, Len: 1}, {Copy: true, At: 1 << 16, Len: 1 << 16},
		own("a"), own("\x00"), own(long(127)), own(long(1 << 16)),
	}
}

// wrong are pieces that may not be.
func wrong() []api.Piece {
	l := []api.Piece{
		{}, {Copy: true}, {Own: "a"}, {Len: 1}, {Len: 2, Own: "a"}, {Len: 1, Own: "ab"},
		{At: 1, Len: 1, Own: "a"}, {At: -1, Len: 1, Own: "a"}, {Copy: true, Len: 1, Own: "a"}, {Copy: true, At: -1, Len: 1},
		{Copy: true, At: 1<<16 + 1, Len: 1}, {Copy: true, Len: 1<<16 + 1}, own(long(1<<16 + 1)),
	}
	for _, n := range []int{-1, math.MinInt, math.MaxInt} {
		l = append(l, api.Piece{Copy: true, Len: n}, api.Piece{Copy: true, At: n, Len: 1}, api.Piece{Len: n}, api.Piece{Len: n, Own: "a"}, api.Piece{At: n, Len: 1, Own: "a"})
	}
	return l
}

func TestP11_1_Pieces(t *testing.T) {
	const base = "abcdefghij"
	for _, c := range []struct {
		base, text string
		want       []api.Piece
	}{
		{base, "abcdefghX", []api.Piece{copied8(0), own("X")}},
		{base, "", nil},
		{"", "", nil},
		{"", "abcdefghij", []api.Piece{own("abcdefghij")}},
		{base, base, []api.Piece{{Copy: true, Len: 10}}},
		{base, "abcdefg", []api.Piece{own("abcdefg")}},
		{base, "abcdefgX", []api.Piece{own("abcdefgX")}},
		{"abcdefg", "abcdefg", []api.Piece{own("abcdefg")}},
		{"abcdefgh", "abcdefgh", []api.Piece{copied8(0)}},
		{base, "cdefghij", []api.Piece{copied8(2)}},
		{base, "Xbcdefghijk", []api.Piece{own("X"), {Copy: true, At: 1, Len: 9}, own("k")}},
		{base, "XYcdefghijZabcdefgh", []api.Piece{own("XY"), copied8(2), own("Z"), copied8(0)}},
		{base, "abcdefghabcdefgh", []api.Piece{copied8(0), copied8(0)}},
		{"abcdefgh1abcdefgh23", "abcdefgh23", []api.Piece{copied8(0), own("23")}}, // the first place, though another one has more
		{long(20), long(50), []api.Piece{{Copy: true, Len: 20}, {Copy: true, Len: 20}, {Copy: true, Len: 10}}},
		{long(20), long(47), []api.Piece{{Copy: true, Len: 20}, {Copy: true, Len: 20}, own(long(7))}},
		{"\x00\x00\x00\x00\x00\x00\x00\x00\xff", "\x00\x00\x00\x00\x00\x00\x00\x00\xff", []api.Piece{{Copy: true, Len: 9}}},
	} {
		if l := Pieces(c.base, c.text); !slices.Equal(l, c.want) {
			t.Errorf("of %q, %q: %v", c.base, c.text, l)
		}
	}
}

func TestP11_1_PiecesByTheWords(t *testing.T) {
	l := texts(60)
	for _, base := range l {
		for _, text := range l {
			if got, want := Pieces(base, text), slow(base, text); !slices.Equal(got, want) {
				t.Fatalf("of %q, %q: %v, want %v", base, text, got, want)
			}
		}
	}
}

func TestP11_1_PiecesOfMoreThanAPieceMayHave(t *testing.T) {
	n := 1<<16 + 100
	if l := Pieces(long(n)+"b", "c"+long(n)+"x"); !slices.Equal(l, []api.Piece{own("c"), {Copy: true, Len: n}, own("x")}) {
		t.Error(len(l))
	}
	if l := Pieces("", long(n)); !slices.Equal(l, []api.Piece{own(long(n))}) {
		t.Error(len(l))
	}
	if l := Pieces(long(n)+"bcdefghi", "bcdefghi"); !slices.Equal(l, []api.Piece{copied8(n)}) {
		t.Error(l)
	}
}

func TestP11_1_Check(t *testing.T) {
	for _, p := range may() {
		if e := Check(p); e != api.OK {
			t.Error(p.Copy, p.At, p.Len, len(p.Own), e)
		}
	}
	for _, p := range wrong() {
		if e := Check(p); e != api.ErrArg {
			t.Error(p.Copy, p.At, p.Len, len(p.Own), e)
		}
	}
}

func TestP11_2_Put(t *testing.T) {
	for _, c := range []struct {
		l    []api.Piece
		want string
	}{
		{nil, ""},
		{[]api.Piece{copied8(0)}, "\x11\x00"},
		{[]api.Piece{own("!")}, "\x02!"},
		{[]api.Piece{copied8(0), own("!"), own("ab"), copied8(300)}, "\x11\x00\x02!\x04ab\x11\xac\x02"},
		{[]api.Piece{{Copy: true, At: 1 << 16, Len: 1 << 16}}, "\x81\x80\x08\x80\x80\x04"},
		{[]api.Piece{own(long(64))}, "\x80\x01" + long(64)},
		{[]api.Piece{own(long(1 << 16))}, "\x80\x80\x08" + long(1<<16)},
	} {
		if s, e := Put(c.l...); s != c.want || e != api.OK {
			t.Errorf("%q %v, want %q", s, e, c.want)
		}
		if l, e := Take(c.want); !slices.Equal(l, c.l) || e != api.OK {
			t.Errorf("%q: %v %v", c.want, l, e)
		}
	}
	for _, p := range wrong() {
		if s, e := Put(own("a"), p, own("b")); s != "" || e != api.ErrArg {
			t.Errorf("%q %v", s, e)
		}
	}
}

func TestP11_2_TakeLeadsBackFromPut(t *testing.T) {
	for _, a := range may() {
		for _, b := range may() {
			s, e := Put(a, b, a)
			l, f := Take(s)
			if !slices.Equal(l, []api.Piece{a, b, a}) || e != api.OK || f != api.OK {
				t.Error(a.Len, b.Len, e, f)
			}
		}
	}
}

func TestP11_2_TakeOfNone(t *testing.T) {
	for _, s := range []string{
		"\x00", "\x01\x00", "\x11", "\x04a", "\x02", // nothing, a copy of nothing, no place, too few bytes
		"\x11\x00\x00", "\x02!\x01\x00", "\x02!\x11", // behind one that may be
		"\x91\x00\x00", "\x11\x80\x00", "\x82\x00!", // numbers of more bytes than they need
		"\x80", "\x11\x80", "\xff\xff\xff\xff\xff\xff\xff\xff\xff\x02\x00",
		"\x83\x80\x08\x00", "\x11\x81\x80\x04", // more than 2^16
		"\x82\x80\x08" + long(1<<16+1),
		"\xff\xff\xff\xff\xff\xff\xff\xff\xff\x01\x00", "\x11\xff\xff\xff\xff\xff\xff\xff\xff\xff\x01",
	} {
		if l, e := Take(s); l != nil || e != api.ErrForm {
			t.Errorf("%.20q: %v %v", s, l, e)
		}
		if x, e := Apply("abcdefgh", s); x != "" || e != api.ErrForm {
			t.Errorf("%.20q: %q %v", s, x, e)
		}
	}
}

func TestP11_2_Join(t *testing.T) {
	const base = "abcdefghij"
	for _, c := range []struct {
		l    []api.Piece
		want string
	}{
		{nil, ""},
		{[]api.Piece{own("x"), own("yz")}, "xyz"},
		{[]api.Piece{{Copy: true, Len: 10}}, base},
		{[]api.Piece{{Copy: true, At: 9, Len: 1}, own("-"), {Copy: true, At: 1, Len: 3}, {Copy: true, Len: 1}}, "j-bcda"},
	} {
		if s, e := Join(base, c.l...); s != c.want || e != api.OK {
			t.Errorf("%q %v, want %q", s, e, c.want)
		}
	}
	if s, e := Join(long(1<<16)+"bc", api.Piece{Copy: true, At: 1 << 16, Len: 2}); s != "bc" || e != api.OK {
		t.Error(s, e)
	}
	full := api.Piece{Copy: true, Len: 1 << 16}
	if s, e := Join(long(1<<16), full); s != long(1<<16) || e != api.OK {
		t.Error(len(s), e)
	}
	if s, e := Join("", own(long(1<<16-1)), own("b")); s != long(1<<16-1)+"b" || e != api.OK {
		t.Error(len(s), e)
	}
}

func TestP11_2_JoinOfWhatMayNotBe(t *testing.T) {
	beyond := api.Piece{Copy: true, At: 1, Len: 2}
	full := own(long(1 << 16))
	for _, c := range []struct {
		base string
		l    []api.Piece
		want api.Errno
	}{
		{"ab", []api.Piece{beyond}, api.ErrRange},
		{"", []api.Piece{{Copy: true, Len: 1}}, api.ErrRange},
		{"ab", []api.Piece{{Copy: true, At: 2, Len: 1}}, api.ErrRange},
		{"ab", []api.Piece{{Copy: true, At: 1 << 16, Len: 1 << 16}}, api.ErrRange},
		{"ab", []api.Piece{full, own("b")}, api.ErrLimit},
		{"ab", []api.Piece{own("b"), full}, api.ErrLimit},
		{"ab", []api.Piece{full, full}, api.ErrLimit},
		{"ab", []api.Piece{full, beyond}, api.ErrLimit}, // of one piece the limit first
		{"ab", []api.Piece{beyond, {}}, api.ErrRange},   // of several the one ahead
		{"ab", []api.Piece{beyond, full, full}, api.ErrRange},
		{"ab", []api.Piece{{}, beyond}, api.ErrArg},
		{"ab", []api.Piece{full, {}}, api.ErrArg},
		{"ab", []api.Piece{full, own("b"), {}}, api.ErrLimit},
	} {
		if s, e := Join(c.base, c.l...); s != "" || e != c.want {
			t.Errorf("%q: %d bytes, %v, want %v", c.base, len(s), e, c.want)
		}
	}
	for _, p := range wrong() {
		if s, e := Join("abcdefgh", own("a"), p); s != "" || e != api.ErrArg {
			t.Errorf("%q %v", s, e)
		}
	}
}

func TestP11_2_Encode(t *testing.T) {
	if s, e := Encode("abcdefghij", "abcdefghX"); s != "\x11\x00\x02X" || e != api.OK {
		t.Errorf("%q %v", s, e)
	}
	if s, e := Encode("abc", ""); s != "" || e != api.OK {
		t.Errorf("%q %v", s, e)
	}
	l := texts(40)
	for _, text := range l {
		want, _ := Put(Pieces(l[0], text)...)
		if s, e := Encode(l[0], text); s != want || e != api.OK {
			t.Errorf("%q: %q %v", text, s, e)
		}
	}
	for _, c := range [][2]string{{long(1<<16 + 1), "a"}, {"a", long(1<<16 + 1)}, {long(1<<16 + 1), long(1<<16 + 1)}, {long(1 << 20), ""}, {"", long(1 << 20)}} {
		if s, e := Encode(c[0], c[1]); s != "" || e != api.ErrLimit {
			t.Error(len(c[0]), len(c[1]), len(s), e)
		}
	}
}

func TestP11_2_Apply(t *testing.T) {
	for _, c := range []struct {
		base, s, want string
		e             api.Errno
	}{
		{"abcdefgh", "\x11\x00\x02!", "abcdefgh!", api.OK},
		{"abcdefgh", "", "", api.OK},
		{"ab", "\x05\x01", "", api.ErrRange},
		{"ab", "\x05\x01\x00", "", api.ErrForm}, // what is told of the form stands first
		{long(1 << 16), "\x81\x80\x08\x00\x02b", "", api.ErrLimit},
		{long(1 << 16), "\x81\x80\x08\x00", long(1 << 16), api.OK},
		{long(1<<16) + "b", "\x03\x80\x80\x04", "b", api.OK},
	} {
		if s, e := Apply(c.base, c.s); s != c.want || e != c.e {
			t.Errorf("%.20q: %.20q %v", c.s, s, e)
		}
	}
}

func TestP11_3_ApplyLeadsBack(t *testing.T) {
	l := append(texts(60), "", "\x00", long(1<<16), long(1<<16-9)+"bcdefghij"[:9], "b"+long(1<<15)+"c"+long(1<<15-2))
	for _, base := range l {
		for _, text := range l {
			s, e := Encode(base, text)
			if e != api.OK {
				t.Fatal(len(base), len(text), e)
			}
			if got, e := Apply(base, s); got != text || e != api.OK {
				t.Fatal(len(base), len(text), e)
			}
		}
	}
}

func TestP11_3_WhatIsHandedInStays(t *testing.T) {
	room := []api.Piece{own("a"), copied8(0), own("kept")}
	l := room[:2]
	Put(l...)
	Join("abcdefgh", l...)
	if !slices.Equal(room, []api.Piece{own("a"), copied8(0), own("kept")}) {
		t.Error(room)
	}
	a, _ := Take("\x02!\x02?")
	b, _ := Take("\x02!\x02?")
	a[0].Own = "x"
	_ = append(a[:1], own("y"))
	if b[0].Own != "!" || b[1].Own != "?" {
		t.Error(b)
	}
}
