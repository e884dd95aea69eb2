package journal

import (
	"math"
	"slices"
	"strconv"
	"strings"
	"testing"

	"pleach/api"
	"pleach/disk"
	"pleach/entry"
	"pleach/sample"
)

var (
	noughts = strings.Repeat("\x00", api.Sector)
	other   = strings.Repeat("\xff", api.Sector) // no record
)

func sum(n int) string { return strings.Repeat(string(rune('a'+n%26)), api.Hash) }

// record is some record; its Epoch and Seq play no part.
func record(n int) api.Record {
	return api.Record{Epoch: -n, Seq: 77, Kind: 1 + n%2, Name: "n" + strconv.Itoa(n), Old: sum(n), New: sum(n + 1), Tail: 100 * n, Num: n + 1}
}

// stands is a record as it stands in a journal.
func stands(n, epoch, seq int) api.Record {
	r := record(n)
	r.Epoch, r.Seq = epoch, seq
	return r
}

// row is so many records as they stand in a journal.
func row(count, epoch int) []api.Record {
	var l []api.Record
	for i := range count {
		l = append(l, stands(i, epoch, i))
	}
	return l
}

// place is the sector of a record on a disk of 16 sectors.
func place(half, seq int) int { return 8 + 7*half - seq }

// lay writes a record to a sector, safely.
func lay(t *testing.T, d *disk.Disk, at int, r api.Record) {
	t.Helper()
	s, e := entry.Put(r)
	if e != api.OK {
		t.Fatal(r, e)
	}
	is(t, "Over", d.Over(at, s), api.OK)
}

// filled is a disk of 16 sectors, each of which shows s.
func filled(t *testing.T, s string) *disk.Disk {
	t.Helper()
	d, e := disk.Load(api.Image{Sectors: slices.Repeat([]string{s}, 16)})
	is(t, "Load", e, api.OK)
	return d
}

// opened is a journal that a test can't do without.
func opened(t *testing.T, d *disk.Disk, half, epoch int) (*Journal, []api.Record) {
	t.Helper()
	j, l, e := Open(d, half, epoch)
	if j == nil || e != api.OK || j.Count() != len(l) {
		t.Fatal(half, epoch, e, j.Count(), len(l))
	}
	return j, l
}

// kept is a disk with a journal of so many records.
func kept(t *testing.T, half, epoch, count int) (*Journal, *disk.Disk) {
	t.Helper()
	d := filled(t, noughts)
	j, _ := opened(t, d, half, epoch)
	for i := range count {
		is(t, "Append", j.Append(record(i)), api.OK)
	}
	return j, d
}

func is(t *testing.T, what string, e, want api.Errno) {
	t.Helper()
	if e != want {
		t.Errorf("%s: %v, want %v", what, e, want)
	}
}

func TestP38_1_Open(t *testing.T) {
	for half := range 2 {
		for count := range 8 {
			for _, epoch := range []int{1, 5, api.MaxNum} {
				d := filled(t, other)
				for seq := range count {
					lay(t, d, place(half, seq), stands(seq, epoch, seq))
				}
				ops := d.Ops()
				_, l := opened(t, d, half, epoch)
				if !slices.Equal(l, row(count, epoch)) {
					t.Error(half, count, l)
				}
				if n := d.Ops() - ops; n != min(count+1, 7) { // up to the first one that is none
					t.Error(half, count, n)
				}
				for _, of := range [][2]int{{1 - half, epoch}, {half, epoch%api.MaxNum + 1}} {
					if _, l := opened(t, d, of[0], of[1]); l != nil {
						t.Error(of, l)
					}
				}
			}
		}
	}
}

// What ends the records: another epoch, another seq, no record; what is behind is not read.
func TestP38_1_OpenReadsAsLongAsThereAreSuch(t *testing.T) {
	for at := range 7 {
		for what := range 7 {
			d := filled(t, noughts)
			for seq := range 7 {
				lay(t, d, place(1, seq), stands(seq, 5, seq))
			}
			switch what {
			case 0:
				lay(t, d, place(1, at), stands(at, 4, at))
			case 1:
				lay(t, d, place(1, at), stands(at, 6, at))
			case 2:
				lay(t, d, place(1, at), stands(at, 5, at+1))
			case 3:
				lay(t, d, place(1, at), stands(at, 5, (at+6)%7))
			case 4:
				d.Over(place(1, at), noughts)
			case 5:
				d.Over(place(1, at), other)
			case 6:
				d.Write(place(1, at), other) // as it shows, flushed or not
			}
			ops := d.Ops()
			_, l := opened(t, d, 1, 5)
			if !slices.Equal(l, row(at, 5)) || d.Ops()-ops != at+1 {
				t.Error(at, what, l, d.Ops()-ops)
			}
		}
	}
	d := filled(t, noughts)
	s, _ := entry.Put(stands(0, 5, 0))
	d.Write(place(1, 0), s)
	if _, l := opened(t, d, 1, 5); !slices.Equal(l, row(1, 5)) {
		t.Error(l)
	}
}

func TestP38_1_OpenOfAGreatDisk(t *testing.T) {
	d, _ := disk.New(4096)
	for seq := range 2047 {
		lay(t, d, 2048-seq, stands(seq%1000, 1, seq))
	}
	if j, l := opened(t, d, 0, 1); len(l) != 2047 || j.Append(record(1)) != api.ErrFull {
		t.Error(len(l))
	}
	odd, _ := disk.New(17)
	lay(t, odd, 8, stands(0, 1, 0))
	if _, l := opened(t, odd, 0, 1); len(l) != 1 {
		t.Error(l)
	}
}

func TestP38_1_At(t *testing.T) {
	for half := range 2 {
		for count := range 8 {
			d := filled(t, other)
			j, e := At(d, half, 9, count)
			if j == nil || e != api.OK || j.Count() != count || d.Ops() != 0 { // nothing is read
				t.Fatal(half, count, e, d.Ops())
			}
			want := api.OK
			if count >= 6 {
				want = api.ErrFull
			}
			is(t, "Append", j.Append(record(3)), want)
			if s, _ := d.Read(place(half, min(count, 5))); want == api.OK {
				if r, e := entry.Take(s); r != stands(3, 9, count) || e != api.OK {
					t.Error(half, count, r, e)
				}
			}
		}
	}
}

func TestP38_1_WhatMayNotBe(t *testing.T) {
	d := filled(t, noughts)
	for _, c := range []struct {
		d                  *disk.Disk
		half, epoch, count int
		want               api.Errno
	}{
		{nil, 0, 1, 0, api.ErrNil}, {&disk.Disk{}, 0, 1, 0, api.ErrNil}, {nil, 2, 0, -1, api.ErrNil}, {&disk.Disk{}, -1, -1, 99, api.ErrNil},
		{d, 2, 1, 0, api.ErrArg}, {d, -1, 1, 0, api.ErrArg}, {d, math.MinInt, 1, 0, api.ErrArg}, {d, math.MaxInt, 1, 0, api.ErrArg},
		{d, 0, 0, 0, api.ErrArg}, {d, 1, -1, 0, api.ErrArg}, {d, 0, api.MaxNum + 1, 0, api.ErrArg}, {d, 0, math.MinInt, 0, api.ErrArg}, {d, 0, math.MaxInt, 0, api.ErrArg},
		{d, 0, 1, -1, api.ErrArg}, {d, 0, 1, 8, api.ErrArg}, {d, 0, 1, math.MinInt, api.ErrArg}, {d, 0, 1, math.MaxInt, api.ErrArg},
		{d, 0, 1, 0, api.OK}, {d, 1, api.MaxNum, 7, api.OK},
	} {
		if j, e := At(c.d, c.half, c.epoch, c.count); e != c.want || (j == nil) != (e != api.OK) {
			t.Error(c, j, e)
		}
		if c.count != 0 {
			continue
		}
		if j, l, e := Open(c.d, c.half, c.epoch); e != c.want || l != nil || (j == nil) != (e != api.OK) {
			t.Error(c, j, l, e)
		}
	}
}

func TestP38_1_WithoutPower(t *testing.T) {
	_, d := kept(t, 0, 1, 3)
	is(t, "Crash", d.Crash(), api.OK)
	if j, l, e := Open(d, 0, 1); j != nil || l != nil || e != api.ErrDown {
		t.Error(j, l, e)
	}
	if _, _, e := Open(d, 2, 1); e != api.ErrArg { // ahead of the disk's
		t.Error(e)
	}
	if j, e := At(d, 0, 1, 3); j.Count() != 3 || e != api.OK {
		t.Error(e)
	}
}

func TestP38_1_NoJournal(t *testing.T) {
	for _, j := range []*Journal{nil, {}} {
		if j.Count() != 0 {
			t.Error(j.Count())
		}
		is(t, "Append", j.Append(record(1)), api.ErrNil)
		is(t, "Append of none", j.Append(api.Record{}), api.ErrNil)
	}
}

func TestP38_2_Append(t *testing.T) {
	for half := range 2 {
		for count := range 6 {
			j, d := kept(t, half, 5, count)
			ops, was := d.Ops(), d.Seize()
			is(t, "Append", j.Append(record(count)), api.OK)
			if n := d.Ops() - ops; n != 4 || j.Count() != count+1 {
				t.Error(half, count, n, j.Count())
			}
			s, _ := entry.Put(stands(count, 5, count))
			was.Sectors[place(half, count)] = s
			if now := d.Seize(); !slices.Equal(now.Sectors, was.Sectors) || len(now.Cache) != 0 {
				t.Error(half, count)
			}
			if _, l := opened(t, d, half, 5); !slices.Equal(l, row(count+1, 5)) {
				t.Error(half, count, l)
			}
		}
	}
}

// The four steps, one by one.
func TestP38_2_AppendsSteps(t *testing.T) {
	s, _ := entry.Put(stands(2, 5, 2))
	for at, want := range [][]api.Write{nil, {{At: 5, Data: noughts}}, nil, {{At: 6, Data: s}}} {
		j, d := kept(t, 0, 5, 2)
		for _, sector := range []int{5, 6} {
			d.Over(sector, other)
		}
		is(t, "Arm", d.Arm(at+1), api.OK)
		is(t, "Append", j.Append(record(2)), api.ErrDown)
		x := d.Seize()
		if !slices.Equal(x.Cache, want) || j.Count() != 2 {
			t.Error(at, x.Cache, j.Count())
		}
		if (x.Sectors[5] == noughts) != (at >= 2) || x.Sectors[6] != other {
			t.Error(at, x.Sectors[5], x.Sectors[6])
		}
	}
}

func TestP38_2_AppendOfWhatMayNotBe(t *testing.T) {
	for _, count := range []int{0, 3, 6, 7} {
		for _, change := range []func(r *api.Record){
			func(r *api.Record) { r.Kind = 0 }, func(r *api.Record) { r.Kind = 3 }, func(r *api.Record) { r.Name = "" }, func(r *api.Record) { r.Name = "A" },
			func(r *api.Record) { r.Old = "a" }, func(r *api.Record) { r.New = sum(1) + "a" }, func(r *api.Record) { r.Old, r.New = "", "" },
			func(r *api.Record) { r.Tail = -1 }, func(r *api.Record) { r.Tail = 4096*128 + 1 }, func(r *api.Record) { r.Num = 0 }, func(r *api.Record) { r.Num = api.MaxNum + 2 },
		} {
			d := filled(t, other)
			j, _ := At(d, 0, 1, count)
			r := record(1)
			change(&r)
			is(t, "Append", j.Append(r), api.ErrArg) // ahead of ErrFull
			is(t, "Crash", d.Crash(), api.OK)
			is(t, "Append without power", j.Append(r), api.ErrArg)
			if x := d.Seize(); j.Count() != count || d.Ops() != 0 || len(x.Cache) != 0 {
				t.Error(count, r, d.Ops())
			}
		}
	}
}

func TestP38_2_AppendToAFullOne(t *testing.T) {
	j, d := kept(t, 1, 5, 6)
	ops := d.Ops()
	is(t, "Append", j.Append(record(6)), api.ErrFull)
	is(t, "Append", j.Append(record(6)), api.ErrFull)
	if j.Count() != 6 || d.Ops() != ops {
		t.Error(j.Count(), d.Ops()-ops)
	}
	is(t, "Crash", d.Crash(), api.OK)
	is(t, "Append without power", j.Append(record(6)), api.ErrFull) // ahead of the disk's
	is(t, "Boot", d.Boot(), api.OK)
	if _, l := opened(t, d, 1, 5); !slices.Equal(l, row(6, 5)) {
		t.Error(l)
	}
}

// A journal whose disk refused goes on, when there is power again.
func TestP38_2_AppendBehindTheDisksError(t *testing.T) {
	for at := 1; at <= 4; at++ {
		j, d := kept(t, 0, 5, 2)
		is(t, "Arm", d.Arm(at), api.OK)
		is(t, "Append", j.Append(record(3)), api.ErrDown)
		is(t, "Append", j.Append(record(3)), api.ErrDown)
		is(t, "Boot", d.Boot(), api.OK)
		is(t, "Append with power", j.Append(record(2)), api.OK)
		if _, l := opened(t, d, 0, 5); !slices.Equal(l, row(3, 5)) || j.Count() != 3 {
			t.Error(at, l)
		}
	}
}

// Two journals of one disk know nothing of one another.
func TestP38_2_TwoJournals(t *testing.T) {
	j, d := kept(t, 0, 5, 2)
	other, _ := opened(t, d, 1, 6)
	is(t, "Append", other.Append(record(0)), api.OK)
	is(t, "Append", j.Append(record(2)), api.OK)
	if _, l := opened(t, d, 1, 6); !slices.Equal(l, row(1, 6)) || other.Count() != 1 {
		t.Error(l)
	}
	if _, l := opened(t, d, 0, 5); !slices.Equal(l, row(3, 5)) || j.Count() != 3 {
		t.Error(l)
	}
}

func TestP38_3_Tail(t *testing.T) {
	for _, c := range []struct {
		l         []api.Record
		tail, num int
	}{
		{nil, -5, math.MaxInt}, {[]api.Record{}, -5, math.MaxInt}, {row(1, 1), 0, 1}, {row(4, 1), 300, 4}, {[]api.Record{record(4), record(1)}, 100, 2}, {[]api.Record{{}}, 0, 0},
	} {
		if tail, num := Tail(-5, math.MaxInt, c.l...); tail != c.tail || num != c.num {
			t.Error(c, tail, num)
		}
	}
}

func TestP38_3_Rise(t *testing.T) {
	of := func(l ...int) []api.Record {
		var all []api.Record
		for i := 0; i < len(l); i += 2 {
			all = append(all, api.Record{Tail: l[i], Num: l[i+1], Seq: -i, Epoch: -i})
		}
		return all
	}
	for _, c := range []struct {
		l    []api.Record
		want bool
	}{
		{nil, true}, {of(5, 7), true}, {of(-1, -1), true}, {of(5, 7, 5, 7), true}, {of(5, 7, 6, 7), true}, {of(5, 7, 5, 8), true}, {of(5, 7, 6, 8, 6, 9, 9, 9), true}, {row(9, 1), true},
		{of(5, 7, 4, 7), false}, {of(5, 7, 5, 6), false}, {of(5, 7, 4, 8), false}, {of(5, 7, 6, 6), false}, {of(5, 7, 6, 8, 5, 8), false}, {of(5, 7, 6, 8, 6, 7), false}, {of(5, 7, 4, 7, 6, 7), false}, {of(math.MaxInt, 0, math.MinInt, 0), false},
	} {
		if Rise(c.l...) != c.want {
			t.Error(c.l)
		}
	}
}

func TestP38_3_Memory(t *testing.T) {
	j, d := kept(t, 0, 5, 3)
	_, l := opened(t, d, 0, 5)
	sample.Spoil(l)
	is(t, "Append", j.Append(record(3)), api.OK)
	_, l = opened(t, d, 0, 5)
	if !slices.Equal(l, row(4, 5)) {
		t.Error(l)
	}
	l = sample.Room(l, record(9))
	was := sample.All(l)
	Tail(1, 2, l...)
	Rise(l...)
	if !slices.Equal(sample.All(l), was) {
		t.Error(l)
	}
}

// subsets are all subsets of the numbers below n.
func subsets(n int) [][]int {
	all := [][]int{nil}
	for i := range n {
		for _, l := range slices.Clone(all) {
			all = append(all, append(slices.Clip(l), i))
		}
	}
	return all
}

// crashes does an Append to a disk that prepare makes, lets the power go at each step, and at none, keeping any of what was not flushed.
func crashes(t *testing.T, count int, prepare func() *disk.Disk) {
	t.Helper()
	for at := range 6 {
		for _, keep := range subsets(2) {
			d := prepare()
			j, e := At(d, 1, 5, count)
			is(t, "At", e, api.OK)
			if at < 5 {
				is(t, "Arm", d.Arm(at), api.OK)
			}
			e = j.Append(record(count))
			is(t, "Crash", d.Crash(keep...), api.OK)
			is(t, "Boot", d.Boot(), api.OK)
			_, l := opened(t, d, 1, 5)
			was, now := slices.Equal(l, row(count, 5)), slices.Equal(l, row(count+1, 5))
			if e == api.OK && !now || !was && !now || (e == api.OK) != (at == 0 || at == 5) {
				t.Error(at, keep, e, l)
			}
		}
	}
}

func TestP38_4_AllOrNothing(t *testing.T) {
	for count := range 6 {
		crashes(t, count, func() *disk.Disk {
			_, d := kept(t, 1, 5, count)
			return d
		})
	}
}

// Records of this epoch and of others, whatever, stand behind the sector of the next one.
func TestP38_4_WhateverStoodBehind(t *testing.T) {
	for count := range 6 {
		for what := range 5 {
			crashes(t, count, func() *disk.Disk {
				_, d := kept(t, 1, 5, count)
				for seq := count + 1; seq < 7; seq++ {
					switch what {
					case 0:
						lay(t, d, place(1, seq), stands(seq+20, 5, seq)) // as if they were the next ones
					case 1:
						lay(t, d, place(1, seq), stands(seq, 4, seq))
					case 2:
						lay(t, d, place(1, seq), stands(seq, 5, count))
					case 3:
						lay(t, d, place(1, seq), stands(seq, 5, count+1))
					case 4:
						d.Over(place(1, seq), other)
					}
				}
				if count%2 == 1 { // the next one's own sector may show what is no next record
					lay(t, d, place(1, count), stands(9, 4, count))
				}
				return d
			})
		}
	}
}

// Crash by crash one journal goes on: what was answered is there.
func TestP38_4_CrashByCrash(t *testing.T) {
	var d sample.Dice
	for range 200 {
		x := filled(t, noughts)
		var want []api.Record
		for n := range 12 {
			j, l := opened(t, x, 0, 3)
			if len(l) > 6 {
				t.Fatal(len(l))
			}
			is(t, "Arm", x.Arm(d.Below(6)), api.OK)
			e := j.Append(record(n))
			next := append(slices.Clone(want), stands(n, 3, len(want)))
			if d.Below(3) > 0 || x.Down() {
				x.Crash(subsets(2)[d.Below(4)]...)
			}
			x.Boot()
			_, l = opened(t, x, 0, 3)
			switch {
			case e == api.ErrFull:
				next = want
			case e == api.ErrDown && slices.Equal(l, want):
				next = want
			}
			if !slices.Equal(l, next) {
				t.Fatal(n, e, l, next)
			}
			want = next
		}
	}
}
