package varint

import (
	"encoding/binary"
	"math"
	"slices"
	"strings"
	"testing"
)

// borders are the numbers at which the bytes become more, and those beside them.
func borders() []uint64 {
	l := []uint64{0, 300, math.MaxUint64}
	for i := range 64 {
		n := uint64(1) << i
		l = append(l, n-1, n, n+1)
	}
	return l
}

func TestP1_1_Put(t *testing.T) {
	for n, want := range map[uint64]string{
		0:                  "\x00",
		1:                  "\x01",
		127:                "\x7f",
		128:                "\x80\x01",
		300:                "\xac\x02",
		1<<14 - 1:          "\xff\x7f",
		1 << 14:            "\x80\x80\x01",
		1 << 63:            "\x80\x80\x80\x80\x80\x80\x80\x80\x80\x01",
		math.MaxUint64:     "\xff\xff\xff\xff\xff\xff\xff\xff\xff\x01",
		math.MaxUint64 / 2: "\xff\xff\xff\xff\xff\xff\xff\xff\x7f",
	} {
		if s := Put(n); s != want {
			t.Errorf("Put(%d) = %x, want %x", n, s, want)
		}
	}
	for _, n := range borders() {
		want := string(binary.AppendUvarint(nil, n))
		if s := Put(n); s != want || Size(n) != len(want) {
			t.Errorf("%d: %x of %d bytes, want %x", n, s, Size(n), want)
		}
	}
}

func TestP1_1_Get(t *testing.T) {
	for _, c := range []struct {
		s    string
		n    uint64
		size int
	}{
		{"\x00", 0, 1},
		{"\x00\x00", 0, 1},
		{"\x7f\xff", 127, 1},
		{"\xac\x02x", 300, 2},
		{"\x80\x80\x01\x80", 1 << 14, 3},
		{"\x80\x80\x80\x80\x80\x80\x80\x80\x80\x01", 1 << 63, 10},
		{"\xff\xff\xff\xff\xff\xff\xff\xff\xff\x01\x01", math.MaxUint64, 10},
	} {
		if n, size, ok := Get(c.s); n != c.n || size != c.size || !ok {
			t.Errorf("%x: %d %d %v", c.s, n, size, ok)
		}
	}
}

func TestP1_1_GetNone(t *testing.T) {
	nine := strings.Repeat("\x80", 9)
	for _, s := range []string{
		"", "\x80", "\xff", "\x80\x00", "\xff\x00", "\x80\x80\x00", "\xff\xff\xff",
		nine, nine + "\x00", nine + "\x02", nine + "\x03", nine + "\x7f", nine + "\x80", nine + "\x81", nine + "\x80\x00", nine + "\x80\x01", nine + "\x81\x01",
		strings.Repeat("\xff", 9) + "\x02", strings.Repeat("\xff", 10) + "\x01", strings.Repeat("\xff", 1000),
	} {
		if n, size, ok := Get(s); n != 0 || size != 0 || ok {
			t.Errorf("%x: %d %d %v", s, n, size, ok)
		}
	}
}

func TestP1_2_Zig(t *testing.T) {
	for u, n := range []int{0, -1, 1, -2, 2, -3, 3} {
		if Zig(n) != uint64(u) || Zag(uint64(u)) != n {
			t.Errorf("%d: %d; %d: %d", n, Zig(n), u, Zag(uint64(u)))
		}
	}
	for n, u := range map[int]uint64{math.MaxInt: math.MaxUint64 - 1, math.MinInt: math.MaxUint64, math.MinInt + 1: math.MaxUint64 - 2} {
		if Zig(n) != u || Zag(u) != n {
			t.Errorf("%d: %d; %d: %d", n, Zig(n), u, Zag(u))
		}
	}
	for _, u := range borders() {
		if Zig(Zag(u)) != u || Zag(Zig(int(u))) != int(u) {
			t.Errorf("%d does not come back", u)
		}
	}
}

func TestP1_2_Int(t *testing.T) {
	for n, want := range map[int]string{0: "\x00", -1: "\x01", 1: "\x02", -64: "\x7f", 64: "\x80\x01", math.MinInt: "\xff\xff\xff\xff\xff\xff\xff\xff\xff\x01"} {
		if s := Int(n); s != want {
			t.Errorf("Int(%d) = %x", n, s)
		}
		if got, size, ok := GetInt(want + "\x05"); got != n || size != len(want) || !ok {
			t.Errorf("GetInt of %d: %d %d %v", n, got, size, ok)
		}
	}
	for _, s := range []string{"", "\x81", "\x81\x00", strings.Repeat("\xff", 10)} {
		if n, size, ok := GetInt(s); n != 0 || size != 0 || ok {
			t.Errorf("%x: %d %d %v", s, n, size, ok)
		}
	}
}

func TestP1_3_Row(t *testing.T) {
	if Row() != "" || Row(1) != "\x01" || Row(1, 300, 0) != "\x01\xac\x02\x00" {
		t.Errorf("%x %x %x", Row(), Row(1), Row(1, 300, 0))
	}
	all := borders()
	l, size, ok := Rows(Row(all...)+"\x80", len(all))
	if !slices.Equal(l, all) || size != len(Row(all...)) || !ok {
		t.Error(l, size, ok)
	}
	if !slices.Equal(all, borders()) {
		t.Error("the list that was handed in is another one")
	}
}

func TestP1_3_Rows(t *testing.T) {
	const s = "\x01\xac\x02\x03\x80\x00"
	for count, want := range map[int]int{1: 1, 2: 3, 3: 4} {
		l, size, ok := Rows(s, count)
		if !slices.Equal(l, []uint64{1, 300, 3}[:count]) || size != want || !ok {
			t.Error(count, l, size, ok)
		}
	}
	for _, count := range []int{0, -1, math.MinInt} {
		for _, s := range []string{"", "\x80", s} {
			if l, size, ok := Rows(s, count); len(l) != 0 || size != 0 || !ok {
				t.Error(count, l, size, ok)
			}
		}
	}
	for _, count := range []int{4, 5, 6, 7, math.MaxInt} {
		if l, size, ok := Rows(s, count); len(l) != 0 || size != 0 || ok {
			t.Error(count, l, size, ok)
		}
	}
	if l, size, ok := Rows("", 1); len(l) != 0 || size != 0 || ok {
		t.Error(l, size, ok)
	}
}

func TestP1_4_GetLeadsBackFromPut(t *testing.T) {
	for _, n := range borders() {
		for _, behind := range []string{"", "\x00", "\x80", "\xff\xff", "abc"} {
			if got, size, ok := Get(Put(n) + behind); got != n || size != Size(n) || !ok {
				t.Errorf("%d, behind it %x: %d %d %v", n, behind, got, size, ok)
			}
		}
	}
}

func TestP1_4_PutLeadsBackFromGet(t *testing.T) {
	took := 0
	for i := range 1 << 24 {
		if i%7 != 0 && i > 1<<16 { // all first two bytes with a 0 behind, and many of three
			continue
		}
		s := string([]byte{byte(i), byte(i >> 8), byte(i >> 16)})
		n, size, ok := Get(s)
		if ok && Put(n) != s[:size] {
			t.Fatalf("%x: %d, whose bytes are %x", s, n, Put(n))
		}
		if ok {
			took++
		}
	}
	if took == 0 {
		t.Error("none was taken")
	}
}

func TestP1_4_NoneBeginsWithAnother(t *testing.T) {
	for _, m := range borders() {
		for _, n := range borders() {
			if m != n && strings.HasPrefix(Put(m), Put(n)) {
				t.Errorf("the bytes of %d begin with those of %d", m, n)
			}
		}
	}
}
