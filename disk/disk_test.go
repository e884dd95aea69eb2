package disk

import (
	"math"
	"reflect"
	"slices"
	"strings"
	"testing"

	"pleach/api"
)

// full is a text as a sector.
func full(s string) string { return s + strings.Repeat("\x00", api.Sector-len(s)) }

// made is a disk of n sectors that a test can't do without.
func made(t *testing.T, n int) *Disk {
	t.Helper()
	d, e := New(n)
	if d == nil || e != api.OK {
		t.Fatal(n, e)
	}
	return d
}

// is tells whether an error is the one that is asked for.
func is(t *testing.T, what string, e, want api.Errno) {
	t.Helper()
	if e != want {
		t.Errorf("%s: %v, want %v", what, e, want)
	}
}

// shows tells whether a sector shows a text.
func shows(t *testing.T, d *Disk, i int, want string) {
	t.Helper()
	if s, e := d.Read(i); s != full(want) || e != api.OK {
		t.Errorf("sector %d shows %q, %v; want %q", i, strings.TrimRight(s, "\x00"), e, want)
	}
}

// sectors are n of them, each with another text.
func sectors(n int) []string {
	l := make([]string, n)
	for i := range l {
		l[i] = full("s" + string(rune('a'+i%26)))
	}
	return l
}

func TestP7_1_New(t *testing.T) {
	for _, n := range []int{16, 17, 100, 4095, 4096} {
		d := made(t, n)
		if d.Size() != n || d.Down() || d.Ops() != 0 {
			t.Error(n, d.Size(), d.Down(), d.Ops())
		}
		for i := range n {
			shows(t, d, i, "")
		}
		x := d.Seize()
		if len(x.Sectors) != n || len(x.Cache) != 0 || x.Sectors[n-1] != full("") {
			t.Error(n, len(x.Sectors), x.Cache)
		}
	}
	for _, n := range []int{15, 4097, 0, -1, -16, math.MinInt, math.MaxInt} {
		if d, e := New(n); d != nil || e != api.ErrArg {
			t.Error(n, d, e)
		}
	}
}

func TestP7_1_Load(t *testing.T) {
	for _, n := range []int{16, 4096} {
		x := api.Image{Sectors: sectors(n), Cache: []api.Write{{At: 0, Data: full("w")}, {At: n - 1, Data: full("v")}, {At: 0, Data: full("u")}}}
		d, e := Load(x)
		if e != api.OK || d.Size() != n || d.Down() || d.Ops() != 0 {
			t.Fatal(n, e)
		}
		shows(t, d, 0, "u")
		shows(t, d, 1, "sb")
		shows(t, d, n-1, "v")
		if !reflect.DeepEqual(d.Seize(), x) {
			t.Error("another image")
		}
	}
	most := api.Image{Sectors: sectors(16), Cache: slices.Repeat([]api.Write{{At: 3, Data: full("w")}}, 4096)}
	if _, e := Load(most); e != api.OK {
		t.Error(e)
	}
	if d, e := Load(api.Image{Sectors: sectors(16), Cache: []api.Write{}}); e != api.OK || d.Size() != 16 {
		t.Error(e)
	}
}

func TestP7_1_LoadOfNone(t *testing.T) {
	short, long := sectors(16), sectors(16)
	short[15], long[0] = short[15][:127], long[0]+"\x00"
	l, w := sectors(16), full("w")
	for what, x := range map[string]api.Image{
		"nothing":            {},
		"no sector":          {Sectors: []string{}},
		"15 sectors":         {Sectors: sectors(15)},
		"4097 sectors":       {Sectors: sectors(4097)},
		"a short sector":     {Sectors: short},
		"a long sector":      {Sectors: long},
		"an empty sector":    {Sectors: make([]string, 16)},
		"4097 writes":        {Sectors: l, Cache: slices.Repeat([]api.Write{{At: 3, Data: w}}, 4097)},
		"a write ahead":      {Sectors: l, Cache: []api.Write{{At: -1, Data: w}}},
		"a write behind":     {Sectors: l, Cache: []api.Write{{At: 0, Data: w}, {At: 16, Data: w}}},
		"a write far behind": {Sectors: l, Cache: []api.Write{{At: math.MaxInt, Data: w}}},
		"a short write":      {Sectors: l, Cache: []api.Write{{At: 0, Data: w[:127]}}},
		"a long write":       {Sectors: l, Cache: []api.Write{{At: 0, Data: w + "w"}}},
		"an empty write":     {Sectors: l, Cache: []api.Write{{At: 0}}},
	} {
		if d, e := Load(x); d != nil || e != api.ErrArg {
			t.Error(what, e)
		}
	}
}

func TestP7_1_NoDisk(t *testing.T) {
	for _, d := range []*Disk{nil, {}} {
		if d.Size() != 0 || d.Down() || d.Ops() != 0 || !reflect.DeepEqual(d.Seize(), api.Image{}) {
			t.Error("none has something")
		}
		if s, e := d.Read(0); s != "" || e != api.ErrNil {
			t.Error(s, e)
		}
		is(t, "Write", d.Write(0, full("a")), api.ErrNil)
		is(t, "Flush", d.Flush(), api.ErrNil)
		is(t, "Arm", d.Arm(-1), api.ErrNil)
		is(t, "Crash", d.Crash(0), api.ErrNil)
		is(t, "Boot", d.Boot(), api.ErrNil)
		is(t, "Over", d.Over(0, full("a")), api.ErrNil)
		if d.Down() {
			t.Error("none is down")
		}
	}
}

func TestP7_1_NothingIsShared(t *testing.T) {
	x := api.Image{Sectors: sectors(16), Cache: []api.Write{{At: 1, Data: full("w")}}}
	d, _ := Load(x)
	other, _ := Load(x)
	y := d.Seize()
	for _, l := range [][]string{x.Sectors, y.Sectors} {
		l[0] = full("changed")
	}
	x.Cache[0].Data, y.Cache[0].Data = full("changed"), full("changed")
	other.Write(2, full("changed"))
	other.Over(3, full("changed"))
	shows(t, d, 0, "sa")
	shows(t, d, 1, "w")
	shows(t, d, 2, "sc")
	shows(t, d, 3, "sd")
	room := make([]api.Write, 1, 9)
	room[0] = api.Write{At: 1, Data: full("w")}
	d, _ = Load(api.Image{Sectors: sectors(16), Cache: room})
	d.Write(4, full("x"))
	if (room[:2][1] != api.Write{}) {
		t.Error("the room behind a list's end is written to")
	}
}

func TestP7_1_Ops(t *testing.T) {
	d := made(t, 16)
	count := func(want int) {
		t.Helper()
		if d.Ops() != want {
			t.Errorf("%d ops, want %d", d.Ops(), want)
		}
	}
	d.Read(0)
	count(1)
	d.Write(0, full("a"))
	count(2)
	d.Flush()
	count(3)
	d.Read(16)
	d.Write(-1, full("a"))
	d.Write(0, "a")
	d.Over(0, full("b"))
	d.Arm(1)
	d.Seize()
	count(3)
	d.Flush() // the power goes
	d.Read(0)
	d.Write(0, full("a"))
	d.Flush()
	count(3)
	d.Crash()
	d.Boot()
	count(3)
	d.Flush()
	count(4)
}

func TestP7_2_Read(t *testing.T) {
	d := made(t, 16)
	shows(t, d, 0, "")
	shows(t, d, 15, "")
	for _, i := range []int{-1, 16, 17, math.MinInt, math.MaxInt} {
		if s, e := d.Read(i); s != "" || e != api.ErrRange {
			t.Error(i, s, e)
		}
	}
}

func TestP7_2_Write(t *testing.T) {
	d := made(t, 16)
	for _, i := range []int{-1, 16, math.MinInt, math.MaxInt} {
		is(t, "no sector", d.Write(i, full("a")), api.ErrRange)
		is(t, "no sector, no text", d.Write(i, ""), api.ErrRange)
	}
	for _, s := range []string{"", "a", full("a")[:127], full("a") + "a"} {
		is(t, "no text of a sector", d.Write(0, s), api.ErrArg)
	}
	if len(d.Seize().Cache) != 0 {
		t.Error("what was refused was written")
	}
	is(t, "Write", d.Write(1, full("a")), api.OK)
	is(t, "Write", d.Write(15, full("b")), api.OK)
	is(t, "Write", d.Write(1, full("c")), api.OK)
	shows(t, d, 1, "c")
	shows(t, d, 15, "b")
	x := d.Seize()
	if !slices.Equal(x.Cache, []api.Write{{At: 1, Data: full("a")}, {At: 15, Data: full("b")}, {At: 1, Data: full("c")}}) {
		t.Error(x.Cache)
	}
	if x.Sectors[1] != full("") || x.Sectors[15] != full("") {
		t.Error("safe without a flush")
	}
}

func TestP7_2_MoreWritesThanAnImageHas(t *testing.T) {
	d := made(t, 16)
	for i := range 5000 {
		is(t, "Write", d.Write(i%16, full(string(rune('a'+i%26)))), api.OK)
	}
	if n := len(d.Seize().Cache); n != 5000 {
		t.Error(n)
	}
	shows(t, d, 4999%16, string(rune('a'+4999%26)))
}

func TestP7_2_Flush(t *testing.T) {
	d := made(t, 16)
	is(t, "an empty one", d.Flush(), api.OK)
	d.Write(1, full("a"))
	d.Write(2, full("b"))
	d.Write(1, full("c"))
	is(t, "Flush", d.Flush(), api.OK)
	x := d.Seize()
	if x.Sectors[1] != full("c") || x.Sectors[2] != full("b") || len(x.Cache) != 0 {
		t.Error(x.Sectors[1], x.Sectors[2], x.Cache)
	}
	d.Crash()
	d.Boot()
	shows(t, d, 1, "c")
	shows(t, d, 2, "b")
}

// armed is a disk with a write in its cache, whose power goes at the n-th step.
func armed(t *testing.T, n int) *Disk {
	d := made(t, 16)
	d.Write(1, full("a"))
	is(t, "Arm", d.Arm(n), api.OK)
	return d
}

func TestP7_2_Arm(t *testing.T) {
	for n := 1; n < 9; n++ {
		for last, step := range []func(d *Disk) api.Errno{
			func(d *Disk) api.Errno { return d.Write(2, full("b")) },
			(*Disk).Flush,
		} {
			d := armed(t, n)
			for range n - 1 {
				is(t, "ahead", d.Write(3, full("c")), api.OK)
			}
			ops, x := d.Ops(), d.Seize()
			is(t, "the n-th", step(d), api.ErrDown)
			if !d.Down() || d.Ops() != ops || !reflect.DeepEqual(d.Seize(), x) {
				t.Error(n, last, "it was done")
			}
			if len(x.Cache) != n {
				t.Error(n, last, x.Cache)
			}
		}
	}
}

func TestP7_2_WhatIsRefusedIsNotCounted(t *testing.T) {
	d := armed(t, 2)
	d.Write(16, full("a"))
	d.Write(0, "")
	for range 5 {
		d.Read(0)
		d.Over(9, full("o"))
		d.Seize()
	}
	d.Arm(-1)
	is(t, "the first", d.Flush(), api.OK)
	d.Write(16, full("a"))
	is(t, "refused otherwise", d.Write(0, "a"), api.ErrArg)
	shows(t, d, 1, "a")
	is(t, "the second", d.Write(0, full("a")), api.ErrDown)
}

func TestP7_2_ArmAnew(t *testing.T) {
	d := armed(t, 1)
	is(t, "Arm", d.Arm(3), api.OK)
	is(t, "first", d.Flush(), api.OK)
	is(t, "second", d.Flush(), api.OK)
	is(t, "below 0", d.Arm(-1), api.ErrArg)
	is(t, "far below 0", d.Arm(math.MinInt), api.ErrArg)
	is(t, "third", d.Flush(), api.ErrDown)
	d = armed(t, 1)
	is(t, "Arm", d.Arm(0), api.OK)
	for range 9 {
		is(t, "nothing is armed", d.Flush(), api.OK)
	}
	d = armed(t, 1)
	is(t, "Arm", d.Arm(math.MaxInt), api.OK)
	is(t, "far away", d.Flush(), api.OK)
}

func TestP7_2_WithoutPower(t *testing.T) {
	crashed, fused := made(t, 16), armed(t, 1)
	crashed.Crash()
	fused.Flush()
	for _, d := range []*Disk{crashed, fused} {
		x := d.Seize()
		for _, i := range []int{0, -1, 16} {
			if s, e := d.Read(i); s != "" || e != api.ErrDown {
				t.Error(i, s, e)
			}
			is(t, "Write", d.Write(i, full("a")), api.ErrDown)
		}
		is(t, "Write of no text", d.Write(0, ""), api.ErrDown)
		is(t, "Flush", d.Flush(), api.ErrDown)
		is(t, "Arm", d.Arm(1), api.ErrDown)
		is(t, "Arm below 0", d.Arm(-1), api.ErrDown)
		if !d.Down() || d.Size() != 16 || !reflect.DeepEqual(d.Seize(), x) {
			t.Error("it was done")
		}
	}
}

func TestP7_3_Crash(t *testing.T) {
	for _, c := range []struct {
		keep     []int
		one, two string
	}{
		{nil, "", ""},
		{[]int{}, "", ""},
		{[]int{0}, "a", ""},
		{[]int{1}, "", "b"},
		{[]int{2}, "c", ""},
		{[]int{0, 2}, "c", ""},
		{[]int{2, 0}, "c", ""}, // in the order of the writes, not of keep
		{[]int{2, 1, 0}, "c", "b"},
		{[]int{0, 0, 0}, "a", ""},
		{[]int{-1, 3, 99, math.MinInt, math.MaxInt}, "", ""},
		{[]int{-1, 1, 3}, "", "b"},
	} {
		d := made(t, 16)
		d.Write(1, full("a"))
		d.Write(2, full("b"))
		d.Write(1, full("c"))
		keep := slices.Clone(c.keep)
		is(t, "Crash", d.Crash(keep...), api.OK)
		if x := d.Seize(); !d.Down() || len(x.Cache) != 0 || x.Sectors[1] != full(c.one) || x.Sectors[2] != full(c.two) {
			t.Error(c.keep, d.Down(), x.Cache)
		}
		if !slices.Equal(keep, c.keep) {
			t.Error("keep is changed", keep)
		}
		is(t, "Crash again", d.Crash(0, 1, 2), api.OK)
		is(t, "Boot", d.Boot(), api.OK)
		shows(t, d, 1, c.one)
		shows(t, d, 2, c.two)
	}
}

func TestP7_3_CrashBehindTheFuse(t *testing.T) {
	d := armed(t, 2)
	d.Write(1, full("b"))
	d.Write(1, full("c")) // the power goes: it is not done
	is(t, "Crash", d.Crash(0, 2), api.OK)
	d.Boot()
	shows(t, d, 1, "a")
}

func TestP7_3_Boot(t *testing.T) {
	d := armed(t, 1)
	is(t, "with power", d.Boot(), api.OK)
	shows(t, d, 1, "")
	is(t, "nothing is armed", d.Flush(), api.OK)
	d = armed(t, 1)
	d.Flush()
	is(t, "without power", d.Boot(), api.OK)
	if d.Down() || len(d.Seize().Cache) != 0 {
		t.Error(d.Down(), d.Seize().Cache)
	}
	shows(t, d, 1, "")
	is(t, "nothing is armed", d.Flush(), api.OK)
	d.Arm(1)
	d.Crash()
	d.Boot()
	is(t, "nothing is armed behind a crash", d.Write(1, full("z")), api.OK)
	shows(t, d, 1, "z")
}

func TestP7_3_Over(t *testing.T) {
	d := made(t, 16)
	for _, i := range []int{-1, 16, math.MinInt, math.MaxInt} {
		is(t, "no sector", d.Over(i, ""), api.ErrRange)
	}
	for _, s := range []string{"", full("a")[:127], full("a") + "a"} {
		is(t, "no text of a sector", d.Over(0, s), api.ErrArg)
	}
	is(t, "Over", d.Over(0, full("a")), api.OK)
	shows(t, d, 0, "a")
	d.Write(0, full("b"))
	is(t, "Over", d.Over(0, full("c")), api.OK)
	shows(t, d, 0, "b") // what the cache has
	if x := d.Seize(); x.Sectors[0] != full("c") || len(x.Cache) != 1 {
		t.Error(x.Sectors[0], x.Cache)
	}
	d.Crash()
	is(t, "without power", d.Over(1, full("d")), api.OK)
	is(t, "no sector", d.Over(16, full("d")), api.ErrRange)
	is(t, "no text of a sector", d.Over(1, ""), api.ErrArg)
	if !d.Down() {
		t.Error("the power came")
	}
	d.Boot()
	shows(t, d, 0, "c")
	shows(t, d, 1, "d")
}

func TestP7_3_Seize(t *testing.T) {
	d := made(t, 16)
	d.Write(2, full("a"))
	d.Flush()
	d.Write(2, full("b"))
	d.Write(3, full("c"))
	want := api.Image{Sectors: slices.Repeat([]string{full("")}, 16), Cache: []api.Write{{At: 2, Data: full("b")}, {At: 3, Data: full("c")}}}
	want.Sectors[2] = full("a")
	for range 2 { // the first of both changes nothing
		if x := d.Seize(); !reflect.DeepEqual(x, want) {
			t.Error(x)
		}
	}
}

// dice are numbers that come one after the other, always the same ones.
type dice uint64

func (x *dice) below(n int) int {
	*x = *x*6364136223846793005 + 1442695040888963407
	return int(uint64(*x) >> 33 % uint64(n))
}

// play does a step on a disk: a write, a flush, one past a fuse.
func play(d *Disk, x *dice) {
	switch x.below(8) {
	case 0:
		d.Flush()
	case 1:
		d.Over(x.below(16), full("o"+string(rune('a'+x.below(26)))))
	case 2:
		d.Arm(x.below(6))
	default:
		d.Write(x.below(16), full(string(rune('a'+x.below(26)))))
	}
}

func TestP7_4_BehindACrash(t *testing.T) {
	x := dice(1)
	for range 300 {
		d := made(t, 16)
		for range x.below(40) {
			play(d, &x)
		}
		was := d.Seize()
		var keep []int
		for i := range was.Cache {
			if x.below(2) == 0 {
				keep = append(keep, i)
			}
		}
		d.Crash(keep...)
		d.Boot()
		for i, safe := range was.Sectors {
			want := safe
			may := []string{safe}
			for number, w := range was.Cache {
				if w.At != i {
					continue
				}
				may = append(may, w.Data)
				if slices.Contains(keep, number) {
					want = w.Data
				}
			}
			if s, e := d.Read(i); s != want || !slices.Contains(may, s) || e != api.OK {
				t.Fatalf("sector %d: %q, want %q, %v", i, s, want, e)
			}
		}
	}
}

func TestP7_4_ADiskOfAnImage(t *testing.T) {
	x := dice(2)
	for range 300 {
		d := made(t, 16)
		for range x.below(40) {
			play(d, &x)
		}
		if d.Down() {
			continue
		}
		other, e := Load(d.Seize())
		if e != api.OK {
			t.Fatal(e)
		}
		for i := range 16 {
			s, _ := d.Read(i)
			if o, e := other.Read(i); o != s || e != api.OK {
				t.Fatalf("sector %d: %q, want %q, %v", i, o, s, e)
			}
		}
		if d.Crash(0, 2, 4); other.Crash(0, 2, 4) != api.OK || !reflect.DeepEqual(d.Seize(), other.Seize()) {
			t.Fatal("unlike behind a crash")
		}
	}
}
