package fan

import (
	"math"
	"slices"
	"strings"
	"testing"

	"pleach/api"
	"pleach/scan"
)

// sum is a sum that begins with a byte, and is filled up with another one.
func sum(first, fill byte) string {
	return string([]byte{first}) + strings.Repeat(string([]byte{fill}), 31)
}

// sums are rising ones: two of each first byte that step leads to.
func sums(step int) []string {
	var l []string
	for k := 0; k < 256; k += step {
		l = append(l, sum(byte(k), 'a'), sum(byte(k), 'b'))
	}
	return l
}

// rows are rows of sums that rise.
func rows() [][]string {
	return [][]string{nil, {sum(0, 0)}, {sum(255, 255)}, {sum(0x1f, 0)}, {sum(0x0f, 'a'), sum(0x10, 'a'), sum(0xff, 'a')}, sums(1), sums(7), sums(16), sums(100)}
}

func of(t *testing.T, l []string) Fan {
	t.Helper()
	f, e := Of(l)
	if e != api.OK {
		t.Fatal(e)
	}
	return f
}

// odd are fans that no row of sums has.
func odd() []Fan {
	return []Fan{
		{-1}, {1, 0}, {0, 5, 3, 9}, {math.MaxInt, math.MinInt}, {math.MinInt, math.MaxInt}, {3, 2, 1}, {1 << 40},
		{-5, -3, -1, 2, 1000, -7, math.MaxInt, math.MaxInt, 0, 1, 2, 3, 4, 5, 6, math.MinInt},
	}
}

func TestP12_1_Check(t *testing.T) {
	for _, l := range rows() {
		if e := Check(l); e != api.OK {
			t.Error(len(l), e)
		}
	}
	a, b := sum(1, 'a'), sum(1, 'b')
	for _, c := range []struct {
		l    []string
		want api.Errno
	}{
		{[]string{""}, api.ErrArg},
		{[]string{a[:31]}, api.ErrArg},
		{[]string{a + "a"}, api.ErrArg},
		{[]string{a, b[:31]}, api.ErrArg},
		{[]string{a, a}, api.ErrOrder},
		{[]string{b, a}, api.ErrOrder},
		{[]string{a, b, a}, api.ErrOrder},
		{[]string{b, a, ""}, api.ErrOrder},
		{[]string{b, "", a}, api.ErrArg},
		{[]string{b, a[:31]}, api.ErrArg}, // of one of them its bytes first
		{[]string{sum(0x80, 0), sum(0x7f, 0)}, api.ErrOrder},
	} {
		if e := Check(c.l); e != c.want {
			t.Errorf("%q: %v", c.l, e)
		}
		if f, e := Of(c.l); f != (Fan{}) || e != c.want {
			t.Errorf("%q: %v %v", c.l, f, e)
		}
	}
}

func TestP12_1_Of(t *testing.T) {
	if f := of(t, nil); f != (Fan{}) {
		t.Error(f)
	}
	if f := of(t, []string{sum(0x1f, 'a')}); f != (Fan{0, 1, 1, 1, 1, 1, 1, 1, 1, 1, 1, 1, 1, 1, 1, 1}) {
		t.Error(f)
	}
	if f := of(t, sums(16)); f != (Fan{2, 4, 6, 8, 10, 12, 14, 16, 18, 20, 22, 24, 26, 28, 30, 32}) {
		t.Error(f)
	}
	for _, l := range rows() {
		f := of(t, l)
		for k, n := range f {
			want := 0
			for _, s := range l {
				if int(s[0]/16) <= k {
					want++
				}
			}
			if n != want {
				t.Error(len(l), k, n, want)
			}
		}
	}
}

func TestP12_1_Span(t *testing.T) {
	f := Fan{2, 2, 5, 5, 5, 5, 5, 5, 5, 5, 5, 5, 5, 5, 5, 9}
	for k, want := range map[int][2]int{0: {0, 2}, 1: {2, 2}, 2: {2, 5}, 3: {5, 5}, 14: {5, 5}, 15: {5, 9}, 16: {}, -1: {}, math.MinInt: {}, math.MaxInt: {}, 17: {}} {
		if from, to := f.Span(k); from != want[0] || to != want[1] {
			t.Error(k, from, to)
		}
	}
	if from, to := (Fan{3, 1}).Span(1); from != 3 || to != 1 {
		t.Error(from, to)
	}
}

func TestP12_2_Find(t *testing.T) {
	l := []string{sum(0x0f, 'a'), sum(0x10, 'a'), sum(0x10, 'c'), sum(0xff, 'a')}
	f := of(t, l)
	for _, s := range []string{
		"", "\x10", l[1][:31], l[1] + "a", strings.Repeat("a", 33), // no sums
		sum(0x0f, 'b'), sum(0x10, 0), sum(0x10, 'b'), sum(0x10, 'd'), sum(0x20, 'a'), sum(0xff, 'b'), sum(0, 0), sum(0xf0, 0),
	} {
		if at, ok := f.Find(l, s); at != 0 || ok {
			t.Errorf("%q: %d %v", s, at, ok)
		}
	}
	if at, ok := (Fan{}).Find(nil, l[0]); at != 0 || ok {
		t.Error(at, ok)
	}
	for _, short := range [][]string{nil, l[:3], l[:1]} { // the Span is not within the row
		if at, ok := f.Find(short, l[3]); at != 0 || ok {
			t.Error(at, ok)
		}
	}
	if at, ok := f.Find(l[:3], l[2]); at != 2 || !ok {
		t.Error(at, ok)
	}
}

func TestP12_2_FindInTheSpanAlone(t *testing.T) {
	l := []string{sum(0x10, 'a'), sum(0x10, 'b'), sum(0x10, 'c')}
	f := Fan{1, 2, 2, 2, 2, 2, 2, 2, 2, 2, 2, 2, 2, 2, 2, 3}
	for i, want := range []bool{false, true, false} {
		at, ok := f.Find(l, l[i])
		if ok != want || ok && at != i || !ok && at != 0 {
			t.Error(i, at, ok)
		}
	}
	if at, ok := f.Find(l, sum(0x20, 'a')); at != 0 || ok {
		t.Error(at, ok)
	}
}

func TestP12_2_FindEndsInAnyRow(t *testing.T) {
	low, high := sum(0, 'a'), sum(0xff, 'a')
	for _, f := range append(odd(), Fan{}) {
		for _, l := range [][]string{nil, {low}, {high, low}, {"", "x", high}, {low, low, low, low, low, low}} {
			for k := range 256 {
				if at, ok := f.Find(l, sum(byte(k), 'a')); at < 0 || at > 0 && at >= len(l) || !ok && at != 0 {
					t.Error(f, k, at, ok)
				}
			}
		}
	}
	if at, ok := (Fan{-1, 1}).Find([]string{sum(0x10, 'a')}, sum(0x10, 'a')); at != 0 || ok {
		t.Error(at, ok)
	}
	if at, ok := (Fan{1, 0}).Find([]string{sum(0x10, 'a')}, sum(0x10, 'a')); at != 0 || ok {
		t.Error(at, ok)
	}
}

func TestP12_2_Put(t *testing.T) {
	if s := (Fan{}).Put(); s != strings.Repeat("\x00", 16) {
		t.Errorf("%q", s)
	}
	if s := (Fan{1, 2, 300, -1}).Put(); s != "\x01\x02\xac\x02\x00"+strings.Repeat("\x00", 12) {
		t.Errorf("%q", s)
	}
}

// told reads a fan, and tells where it stopped.
func told(s string, count int) (Fan, int, api.Errno) {
	r := scan.New(s)
	f := Read(r, count)
	return f, r.At(), r.Err()
}

func TestP12_2_Read(t *testing.T) {
	ones := strings.Repeat("\x01", 15)
	noughts := strings.Repeat("\x00", 16)
	for _, c := range []struct {
		s     string
		count int
		at    int
		e     api.Errno
	}{
		{"", 0, 0, api.ErrForm},
		{noughts[:15], 0, 15, api.ErrForm},
		{noughts, 1, 16, api.ErrForm}, // the last one is not count
		{noughts, -1, 16, api.ErrForm},
		{noughts, math.MinInt, 16, api.ErrForm},
		{"\x01" + noughts, -1, 0, api.ErrLimit}, // above 0, of a count below 0
		{"\x01" + ones, 0, 0, api.ErrLimit},     // above count
		{ones + "\x02", 1, 15, api.ErrLimit},
		{"\x02" + ones, 2, 2, api.ErrForm},         // less than the one ahead: nothing is read behind it
		{"\x02\x01\x05" + ones, 2, 2, api.ErrForm}, // of several the first
		{"\x00\x03\x01" + ones, 2, 1, api.ErrLimit},
		{"\x02\x02\x80\x00" + ones, 2, 2, api.ErrForm}, // a number that is none
		{"\x01" + ones, 2, 16, api.ErrForm},
	} {
		if f, at, e := told(c.s, c.count); f != (Fan{}) || at != c.at || e != c.e {
			t.Errorf("%q, %d: %v, at %d, %v", c.s, c.count, f, at, e)
		}
	}
	if f, at, e := told(noughts+"x", 0); f != (Fan{}) || at != 16 || e != api.OK {
		t.Error(f, at, e)
	}
	if f, at, e := told("\x00"+ones, 1); f != (Fan{0, 1, 1, 1, 1, 1, 1, 1, 1, 1, 1, 1, 1, 1, 1, 1}) || at != 16 || e != api.OK {
		t.Error(f, at, e)
	}
}

func TestP12_2_ReadOfNoScan(t *testing.T) {
	for _, r := range []*scan.Scan{nil, {}} {
		if f := Read(r, 0); f != (Fan{}) || r.Err() != api.ErrNil {
			t.Error(f, r.Err())
		}
	}
	r := scan.New(strings.Repeat("\x00", 16))
	r.Fail(api.ErrRot)
	if f := Read(r, 0); f != (Fan{}) || r.Err() != api.ErrRot || r.At() != 0 {
		t.Error(f, r.Err(), r.At())
	}
}

func TestP12_3_FoundJustThere(t *testing.T) {
	for _, l := range rows() {
		f := of(t, l)
		for i, s := range l {
			if at, ok := f.Find(l, s); at != i || !ok {
				t.Error(len(l), i, at, ok)
			}
			from, to := f.Span(int(s[0] >> 4))
			if i < from || i >= to {
				t.Error(len(l), i, from, to)
			}
		}
		for k := range 256 {
			s := sum(byte(k), 'a')
			if at, ok := f.Find(l, s); ok != slices.Contains(l, s) || !ok && at != 0 {
				t.Error(len(l), k, at, ok)
			}
		}
	}
}

func TestP12_3_ReadLeadsBack(t *testing.T) {
	for _, l := range rows() {
		f := of(t, l)
		s := f.Put()
		if g, at, e := told(s+"behind", len(l)); g != f || at != len(s) || e != api.OK {
			t.Error(len(l), g, at, e)
		}
		if _, _, e := told(s, len(l)+1); e != api.ErrForm {
			t.Error(len(l), e)
		}
	}
}

func TestP12_3_WhatIsHandedInStays(t *testing.T) {
	l := sums(16)
	kept := slices.Clone(l)
	f := of(t, l)
	Check(l[:3])
	f.Find(l[:20], l[3])
	if !slices.Equal(l, kept) {
		t.Error("the row is another one")
	}
}
