package log

import (
	"math"
	"slices"
	"strings"
	"testing"

	"pleach/api"
	"pleach/disk"
	"pleach/frame"
)

const sectors = 16 // of the disks here

// bytes are n bytes, none of them 0, a row of which stands in no two sectors.
func bytes(n int) string {
	b := make([]byte, n)
	for i := range b {
		b[i] = byte(i%251) + 1
	}
	return string(b)
}

// full is a text as a sector.
func full(s string) string { return s + strings.Repeat("\x00", api.Sector-len(s)) }

// used is a disk on which no sector has noughts.
func used(t *testing.T) *disk.Disk {
	t.Helper()
	d, e := disk.Load(api.Image{Sectors: slices.Repeat([]string{strings.Repeat("\xff", api.Sector)}, sectors)})
	is(t, "Load", e, api.OK)
	return d
}

// opened is a log that a test can't do without.
func opened(t *testing.T, d *disk.Disk, first, most, tail int) *Log {
	t.Helper()
	l, e := Open(d, first, most, tail)
	if l == nil || e != api.OK {
		t.Fatal(first, most, tail, e)
	}
	return l
}

// grown is a log of n bytes that are flushed, and its disk.
func grown(t *testing.T, first, most, n int) (*Log, *disk.Disk) {
	t.Helper()
	d := used(t)
	l := opened(t, d, first, most, 0)
	is(t, "Grow", l.Grow(bytes(n)), api.OK)
	is(t, "Flush", d.Flush(), api.OK)
	return l, d
}

func is(t *testing.T, what string, e, want api.Errno) {
	t.Helper()
	if e != want {
		t.Errorf("%s: %v, want %v", what, e, want)
	}
}

// has tells whether a log has these bytes.
func has(t *testing.T, l *Log, want string) {
	t.Helper()
	if l.Text() != want || l.Tail() != len(want) {
		t.Errorf("%d bytes, tail %d, want %d", len(l.Text()), l.Tail(), len(want))
	}
}

// wrote is what lies unflushed on a disk.
func wrote(d *disk.Disk) []api.Write { return d.Seize().Cache }

func TestP15_1_Open(t *testing.T) {
	text := bytes(300)
	_, d := grown(t, 3, 4, 300)
	for _, tail := range []int{0, 1, 127, 128, 129, 256, 300} {
		has(t, opened(t, d, 3, 4, tail), text[:tail])
	}
	has(t, opened(t, d, 3, 3, 384), text+strings.Repeat("\x00", 84))
	has(t, opened(t, d, 4, 3, 200), text[128:]+strings.Repeat("\x00", 28)) // as the sectors show, from its first one on
	d.Write(3, full("not flushed"))
	has(t, opened(t, d, 3, 4, 11), "not flushed")
	for _, c := range [][3]int{{0, 16, 2048}, {0, 0, 0}, {16, 0, 0}, {15, 1, 128}, {15, 1, 0}, {0, 1, 0}} {
		l := opened(t, d, c[0], c[1], c[2])
		if l.Tail() != c[2] {
			t.Error(c, l.Tail())
		}
	}
}

func TestP15_1_OpenReadsRisingAndNoMore(t *testing.T) {
	_, d := grown(t, 3, 4, 300)
	for tail, want := range map[int]int{0: 0, 1: 1, 128: 1, 129: 2, 300: 3} {
		ops := d.Ops()
		opened(t, d, 3, 4, tail)
		if n := d.Ops() - ops; n != want {
			t.Errorf("of %d bytes %d reads, want %d", tail, n, want)
		}
	}
	var at []int
	gather(7, 3, func(i int) (string, api.Errno) {
		at = append(at, i)
		return "", api.OK
	})
	if !slices.Equal(at, []int{7, 8, 9}) {
		t.Error(at)
	}
}

func TestP15_1_OpenOfWhatMayNotBe(t *testing.T) {
	d := used(t)
	for _, c := range []struct {
		d                 *disk.Disk
		first, most, tail int
		want              api.Errno
	}{
		{nil, 2, 3, 0, api.ErrNil},
		{&disk.Disk{}, 2, 3, 0, api.ErrNil},
		{&disk.Disk{}, 0, 0, 0, api.ErrNil},
		{nil, -1, -1, -1, api.ErrNil},
		{d, -1, 3, 0, api.ErrRange},
		{d, math.MinInt, 0, 0, api.ErrRange},
		{d, math.MinInt, math.MinInt, 0, api.ErrRange},
		{d, 2, -1, 0, api.ErrRange},
		{d, 2, math.MinInt, 0, api.ErrRange},
		{d, -1, 3, -1, api.ErrRange},
		{d, 2, -1, -1, api.ErrRange},
		{d, 15, 2, 0, api.ErrRange},
		{d, 15, 2, -1, api.ErrRange},
		{d, 0, 17, 0, api.ErrRange},
		{d, 0, 17, 9999, api.ErrRange},
		{d, 16, 1, 0, api.ErrRange},
		{d, 17, 0, 0, api.ErrRange},
		{d, math.MaxInt, 0, 0, api.ErrRange},
		{d, math.MaxInt, math.MaxInt, 0, api.ErrRange},
		{d, 2, math.MaxInt, 0, api.ErrRange},
		{d, 2, 3, -1, api.ErrArg},
		{d, 2, 3, math.MinInt, api.ErrArg},
		{d, 2, 3, 385, api.ErrArg},
		{d, 2, 0, 1, api.ErrArg},
		{d, 2, 3, math.MaxInt, api.ErrArg},
	} {
		if l, e := Open(c.d, c.first, c.most, c.tail); l != nil || e != c.want {
			t.Error(c.first, c.most, c.tail, l, e, c.want)
		}
	}
	if d.Ops() != 0 {
		t.Error(d.Ops())
	}
}

func TestP15_1_OpenWithoutPower(t *testing.T) {
	d := used(t)
	is(t, "Crash", d.Crash(), api.OK)
	for tail, want := range map[int]api.Errno{0: api.OK, 1: api.ErrDown, 384: api.ErrDown, 385: api.ErrArg} {
		l, e := Open(d, 2, 3, tail)
		if is(t, "Open", e, want); (l == nil) != (e != api.OK) {
			t.Error(tail, l)
		}
	}
}

func TestP15_1_All(t *testing.T) {
	l := opened(t, used(t), 2, 14, 0)
	if got, e := l.All(); got != nil || e != api.OK {
		t.Error(got, e)
	}
	texts := []string{"a", bytes(200), "bc"}
	is(t, "Put", l.Put(texts...), api.OK)
	if got, e := l.All(); !slices.Equal(got, texts) || e != api.OK {
		t.Error(got, e)
	}
	is(t, "Grow", l.Grow("x"), api.OK)
	if got, e := l.All(); got != nil || e != api.ErrForm {
		t.Error(got, e)
	}
}

func TestP15_1_NoLog(t *testing.T) {
	for _, l := range []*Log{nil, {}} {
		has(t, l, "")
		if got, e := l.All(); got != nil || e != api.ErrNil {
			t.Error(got, e)
		}
		for _, s := range []string{"", "a"} {
			is(t, "Grow", l.Grow(s), api.ErrNil)
			is(t, "Put", l.Put(s), api.ErrNil) // ahead of what Row tells
		}
		is(t, "Put of none", l.Put(), api.ErrNil)
		is(t, "Cut", l.Cut(-1), api.ErrNil)
		is(t, "Cut", l.Cut(0), api.ErrNil)
		is(t, "Limit", l.Limit(-1), api.ErrNil)
		is(t, "Limit", l.Limit(0), api.ErrNil)
		for _, n := range []int{0, 1, -1, math.MaxInt} {
			if k := l.Writes(n); k != 0 {
				t.Error(n, k)
			}
		}
	}
}

// laid is what Grow writes where bytes of a log, from a sector of it on, are given.
func laid(first, from int, text string) []api.Write {
	var l []api.Write
	for i := from; i*api.Sector < len(text); i++ {
		s := text[i*api.Sector:]
		l = append(l, api.Write{At: first + i, Data: full(s[:min(len(s), api.Sector)])})
	}
	return l
}

func TestP15_2_Grow(t *testing.T) {
	for _, c := range []struct{ has, more, from int }{
		{0, 1, 0}, {0, 127, 0}, {0, 128, 0}, {0, 129, 0}, {0, 512, 0},
		{1, 1, 0}, {100, 28, 0}, {100, 29, 0}, {100, 50, 0}, {127, 1, 0}, {127, 2, 0},
		{128, 1, 1}, {128, 128, 1}, {129, 3, 1}, {255, 1, 1}, {255, 2, 1}, {256, 1, 2}, {256, 256, 2}, {383, 129, 2}, {511, 1, 3},
	} {
		l, d := grown(t, 3, 4, c.has)
		ops, text := d.Ops(), bytes(c.has)+"-"+bytes(c.more-1)
		is(t, "Grow", l.Grow(text[c.has:]), api.OK)
		has(t, l, text)
		if got, want := wrote(d), laid(3, c.from, text); !slices.Equal(got, want) {
			t.Error(c, got, want)
		}
		if n := d.Ops() - ops; n != len(wrote(d)) { // nothing was read, nor flushed
			t.Error(c, n)
		}
	}
}

func TestP15_2_GrowOfNothing(t *testing.T) {
	for _, n := range []int{0, 100, 128, 512} {
		l, d := grown(t, 3, 4, n)
		is(t, "Grow", l.Grow(""), api.OK)
		is(t, "Crash", d.Crash(), api.OK)
		is(t, "Grow without power", l.Grow(""), api.OK)
		has(t, l, bytes(n))
		if len(wrote(d)) != 0 {
			t.Error(n, wrote(d))
		}
	}
}

func TestP15_2_GrowOfTooMuch(t *testing.T) {
	for _, c := range []struct{ most, has, fits int }{{0, 0, 0}, {1, 0, 128}, {1, 128, 0}, {1, 127, 1}, {4, 300, 212}, {13, 0, 1664}, {13, 1664, 0}} {
		l, d := grown(t, 3, c.most, c.has)
		for _, more := range []int{c.fits + 1, c.fits + 128, 9999} {
			is(t, "Grow", l.Grow(bytes(more)), api.ErrFull)
		}
		is(t, "Crash", d.Crash(), api.OK)
		is(t, "Grow without power", l.Grow(bytes(c.fits+1)), api.ErrFull)
		is(t, "Boot", d.Boot(), api.OK)
		has(t, l, bytes(c.has))
		if len(wrote(d)) != 0 {
			t.Error(c, wrote(d))
		}
		is(t, "Grow of what fits", l.Grow(bytes(c.fits)), api.OK)
		has(t, l, bytes(c.has)+bytes(c.fits))
	}
}

func TestP15_2_GrowWithTheDisksError(t *testing.T) {
	for at := 1; at <= 3; at++ {
		l, d := grown(t, 3, 4, 200)
		is(t, "Arm", d.Arm(at), api.OK)
		is(t, "Grow", l.Grow(bytes(300)), api.ErrDown)
		has(t, l, bytes(200))
		if n := len(wrote(d)); n != at-1 {
			t.Error(at, n)
		}
		is(t, "Grow again", l.Grow("a"), api.ErrDown)
		is(t, "Boot", d.Boot(), api.OK)
		is(t, "Grow with power", l.Grow("a"), api.OK)
		has(t, l, bytes(200)+"a")
		if got, want := wrote(d), laid(3, 1, l.Text()); !slices.Equal(got, want) {
			t.Error(at, got, want)
		}
	}
}

func TestP15_2_Put(t *testing.T) {
	l, d := grown(t, 3, 4, 0)
	is(t, "Put of none", l.Put(), api.OK)
	if len(wrote(d)) != 0 {
		t.Error(wrote(d))
	}
	one, _ := frame.Row("a", "bc")
	is(t, "Put", l.Put("a", "bc"), api.OK)
	has(t, l, one)
	two, _ := frame.Row(bytes(300))
	is(t, "Put", l.Put(bytes(300)), api.OK)
	has(t, l, one+two)
	if got, want := wrote(d), append(laid(3, 0, one), laid(3, 0, one+two)...); !slices.Equal(got, want) {
		t.Error(got, want)
	}
	long := strings.Repeat("x", 1<<16+1)
	for _, c := range []struct {
		texts []string
		want  api.Errno
	}{
		{[]string{""}, api.ErrArg},
		{[]string{"a", ""}, api.ErrArg},
		{[]string{"a", long}, api.ErrLimit}, // ahead of ErrFull
		{[]string{bytes(512), ""}, api.ErrArg},
		{[]string{bytes(190)}, api.ErrFull},
		{[]string{bytes(100), bytes(100)}, api.ErrFull}, // one would fit
	} {
		is(t, "Put", l.Put(c.texts...), c.want)
		has(t, l, one+two)
	}
	is(t, "Arm", d.Arm(1), api.OK)
	is(t, "Put", l.Put("a"), api.ErrDown)
	has(t, l, one+two)
}

func TestP15_2_Writes(t *testing.T) {
	for _, c := range []struct{ most, has, bytes, want int }{
		{4, 100, 50, 2}, {4, 100, 28, 1}, {4, 100, 29, 2}, {4, 0, 128, 1}, {4, 0, 129, 2}, {4, 128, 1, 1}, {4, 128, 128, 1}, {4, 128, 129, 2},
		{4, 0, 512, 4}, {4, 0, 513, 0}, {4, 512, 1, 0}, {4, 511, 1, 1}, {0, 0, 1, 0}, {4, 100, 412, 4}, {4, 100, 413, 0},
		{4, 100, 0, 0}, {4, 100, -1, 0}, {4, 100, math.MinInt, 0}, {4, 100, math.MaxInt, 0}, {4, 100, math.MaxInt - 100, 0}, {4, 0, math.MaxInt, 0},
	} {
		l, d := grown(t, 3, c.most, c.has)
		ops := d.Ops()
		if n := l.Writes(c.bytes); n != c.want || d.Ops() != ops {
			t.Error(c, n)
		}
	}
}

func TestP15_2_WritesIsWhatGrowWrites(t *testing.T) {
	for has := 0; has <= 384; has += 32 {
		for more := 0; more <= 416; more += 16 {
			l, d := grown(t, 3, 3, has)
			want := l.Writes(more)
			l.Grow(bytes(more))
			if n := len(wrote(d)); n != want {
				t.Error(has, more, n, want)
			}
		}
	}
}

func TestP15_2_Cut(t *testing.T) {
	l, d := grown(t, 3, 4, 300)
	ops := d.Ops()
	for _, tail := range []int{-1, 301, math.MinInt, math.MaxInt} {
		is(t, "Cut", l.Cut(tail), api.ErrArg)
		has(t, l, bytes(300))
	}
	for _, tail := range []int{300, 299, 128, 127, 127, 3, 0, 0} {
		is(t, "Cut", l.Cut(tail), api.OK)
		has(t, l, bytes(300)[:tail])
		is(t, "Cut behind", l.Cut(tail+1), api.ErrArg)
	}
	if d.Ops() != ops {
		t.Error(d.Ops() - ops)
	}
	has(t, opened(t, d, 3, 4, 300), bytes(300))
}

func TestP15_2_GrowBehindACut(t *testing.T) {
	for _, tail := range []int{0, 3, 128, 130, 300} {
		l, d := grown(t, 3, 4, 300)
		is(t, "Cut", l.Cut(tail), api.OK)
		is(t, "Grow", l.Grow("xyz"), api.OK)
		text := bytes(300)[:tail] + "xyz"
		has(t, l, text)
		if got, want := wrote(d), laid(3, tail/api.Sector, text); !slices.Equal(got, want) { // noughts behind, not what was cut
			t.Error(tail, got, want)
		}
		has(t, opened(t, d, 3, 4, tail+3), text)
	}
}

func TestP15_2_Limit(t *testing.T) {
	for _, c := range []struct {
		has, most int
		want      api.Errno
	}{
		{0, 0, api.OK}, {0, -1, api.ErrArg}, {0, math.MinInt, api.ErrArg}, {0, 13, api.OK}, {0, 14, api.ErrArg}, {0, math.MaxInt, api.ErrArg},
		{128, 1, api.OK}, {128, 0, api.ErrArg}, {129, 1, api.ErrArg}, {129, 2, api.OK}, {129, 13, api.OK}, {129, 14, api.ErrArg},
	} {
		l, d := grown(t, 3, 2, c.has)
		ops := d.Ops()
		is(t, "Limit", l.Limit(c.most), c.want)
		has(t, l, bytes(c.has))
		most := 2
		if c.want == api.OK {
			most = c.most
		}
		left := most*api.Sector - c.has
		if d.Ops() != ops || l.Writes(left+1) != 0 || left > 0 && l.Writes(left) == 0 {
			t.Error(c, d.Ops()-ops, l.Writes(left), l.Writes(left+1))
		}
		is(t, "Grow of too much", l.Grow(bytes(left+1)), api.ErrFull)
		is(t, "Grow of what fits", l.Grow(bytes(left)), api.OK)
	}
	l, _ := grown(t, 3, 4, 300)
	is(t, "Limit", l.Limit(2), api.ErrArg)
	is(t, "Cut", l.Cut(256), api.OK)
	is(t, "Limit behind a Cut", l.Limit(2), api.OK)
	last := opened(t, used(t), 16, 0, 0)
	is(t, "Limit at the disk's end", last.Limit(0), api.OK)
	is(t, "Limit past it", last.Limit(1), api.ErrArg)
}

func TestP15_3_WhatGrewIsOpened(t *testing.T) {
	l, d := grown(t, 2, 14, 0)
	for n := 1; n < 400; n = n*2 + 3 {
		is(t, "Grow", l.Grow(bytes(n)), api.OK)
		is(t, "Put", l.Put(bytes(n), "a"), api.OK)
		is(t, "Flush", d.Flush(), api.OK)
		is(t, "Crash", d.Crash(), api.OK)
		is(t, "Boot", d.Boot(), api.OK)
		other := opened(t, d, 2, 14, l.Tail())
		has(t, other, l.Text())
		l = other // which goes on likewise
	}
	if l.Tail() < 1000 {
		t.Error(l.Tail())
	}
}

func TestP15_3_WhatIsOutsideStays(t *testing.T) {
	l, d := grown(t, 3, 4, 512)
	is(t, "Cut", l.Cut(200), api.OK)
	is(t, "Grow", l.Grow(bytes(312)), api.OK)
	is(t, "Flush", d.Flush(), api.OK)
	for i, s := range d.Seize().Sectors {
		if inside := i >= 3 && i < 7; inside == (s == strings.Repeat("\xff", api.Sector)) {
			t.Error(i)
		}
	}
}

func TestP15_3_WhatWasThereIsThereBehindACrash(t *testing.T) {
	for _, tail := range []int{0, 1, 100, 127, 128, 129, 255, 256, 300} {
		for kept := range 16 { // each choice of at most four writes
			l, d := grown(t, 3, 7, tail)
			is(t, "Grow", l.Grow(strings.Repeat("z", 100)), api.OK)
			is(t, "Grow", l.Grow(strings.Repeat("y", 130)), api.OK)
			var keep []int
			for i := range wrote(d) {
				if kept>>i&1 == 1 {
					keep = append(keep, i)
				}
			}
			is(t, "Crash", d.Crash(keep...), api.OK)
			is(t, "Boot", d.Boot(), api.OK)
			has(t, opened(t, d, 3, 7, tail), bytes(tail))
		}
	}
}

func TestP15_3_WhatWasThereIsThereBehindAHalfDoneGrow(t *testing.T) {
	for at := 1; at <= 4; at++ {
		for kept := range 8 {
			l, d := grown(t, 3, 7, 200)
			is(t, "Arm", d.Arm(at), api.OK)
			is(t, "Grow", l.Grow(bytes(400)), api.ErrDown)
			var keep []int
			for i := range 3 {
				if kept>>i&1 == 1 {
					keep = append(keep, i)
				}
			}
			is(t, "Crash", d.Crash(keep...), api.OK)
			is(t, "Boot", d.Boot(), api.OK)
			has(t, opened(t, d, 3, 7, l.Tail()), bytes(200))
		}
	}
}

func TestP15_3_TwoLogsKnowNothingOfOneAnother(t *testing.T) {
	d := used(t)
	a, b := opened(t, d, 2, 3, 0), opened(t, d, 5, 3, 0)
	is(t, "Grow", a.Grow(bytes(384)), api.OK)
	is(t, "Grow", b.Grow("b"), api.OK)
	is(t, "Cut", a.Cut(7), api.OK)
	is(t, "Limit", a.Limit(1), api.OK)
	has(t, a, bytes(7))
	has(t, b, "b")
	if b.Writes(383) != 3 {
		t.Error(b.Writes(383))
	}
	has(t, opened(t, d, 2, 3, 384), bytes(384))
}
