package area

import (
	"math"
	"slices"
	"testing"

	"pleach/api"
)

// sizes are numbers of sectors that may be, the edges among them; wrong are some that may not.
func sizes() []int { return []int{16, 17, 18, 19, 64, 65, 4095, 4096} }
func wrong() []int { return []int{15, 4097, 0, 1, 2, -1, -16, math.MinInt, math.MaxInt} }

// far are numbers at which sums go round.
func far() []int {
	return []int{math.MaxInt, math.MaxInt - 1, math.MaxInt - 127, math.MaxInt/2 + 1, math.MinInt, math.MinInt + 1, -1}
}

func TestP9_1_Check(t *testing.T) {
	for _, n := range sizes() {
		if e := Check(n); e != api.OK {
			t.Error(n, e)
		}
	}
	for _, n := range wrong() {
		if e := Check(n); e != api.ErrArg || Half(n) != 0 {
			t.Error(n, e, Half(n))
		}
	}
}

func TestP9_1_Halves(t *testing.T) {
	for n, want := range map[int]int{16: 7, 17: 7, 18: 8, 64: 31, 65: 31, 4095: 2046, 4096: 2047} {
		if Half(n) != want || First(n, 0) != 2 || First(n, 1) != 2+want {
			t.Error(n, Half(n), First(n, 0), First(n, 1))
		}
		for _, half := range []int{2, -1, 3, math.MinInt, math.MaxInt} {
			if First(n, half) != 2 || Log(n, half, 200) != 4 {
				t.Error(n, half, First(n, half), Log(n, half, 200))
			}
			if p, e := Place(n, half, 0); p != 1+want || e != api.OK {
				t.Error(n, half, p, e)
			}
		}
	}
}

func TestP9_1_Sectors(t *testing.T) {
	for bytes, want := range map[int]int{
		0: 0, -1: 0, -128: 0, math.MinInt: 0, 1: 1, 127: 1, 128: 1, 129: 2, 256: 2, 257: 3, 4096 * 128: 4096,
		math.MaxInt: 1 << 56, math.MaxInt - 127: 1<<56 - 1, math.MaxInt - 126: 1 << 56,
	} {
		if k := Sectors(bytes); k != want {
			t.Errorf("Sectors(%d) = %d, want %d", bytes, k, want)
		}
	}
}

func TestP9_1_Log(t *testing.T) {
	for _, c := range []struct{ n, half, pack, want int }{
		{16, 0, 0, 2}, {16, 0, -1, 2}, {16, 0, 1, 3}, {16, 0, 128, 3}, {16, 0, 129, 4}, {16, 1, 0, 9}, {16, 1, 300, 12},
		{16, 0, 7 * 128, 9}, {16, 0, 7*128 + 1, 9}, {16, 0, math.MaxInt, 9}, {16, 1, math.MaxInt, 16}, {16, 0, math.MinInt, 2},
		{17, 1, 1 << 40, 16}, {4096, 1, 4096 * 128, 4096},
	} {
		if k := Log(c.n, c.half, c.pack); k != c.want {
			t.Error(c, k)
		}
	}
}

func TestP9_1_Place(t *testing.T) {
	for _, n := range sizes() {
		for half := range 2 {
			for seq := range Half(n) {
				if p, e := Place(n, half, seq); p != First(n, half)+Half(n)-1-seq || e != api.OK {
					t.Fatal(n, half, seq, p, e)
				}
			}
			for _, seq := range []int{-1, Half(n), Half(n) + 1, math.MinInt, math.MaxInt} {
				if p, e := Place(n, half, seq); p != 0 || e != api.ErrRange {
					t.Error(n, half, seq, p, e)
				}
			}
		}
	}
	if p, e := Place(16, 0, 0); p != 8 || e != api.OK {
		t.Error(p, e)
	}
	if p, e := Place(16, 1, 6); p != 9 || e != api.OK {
		t.Error(p, e)
	}
	for _, n := range wrong() {
		if p, e := Place(n, 0, 0); p != 0 || e != api.ErrRange {
			t.Error(n, p, e)
		}
	}
}

func TestP9_2_Fits(t *testing.T) {
	for _, c := range []struct {
		n, pack, tail, records int
		want                   bool
	}{
		{16, 0, 0, 0, true},
		{16, 0, 0, 6, true},
		{16, 0, 0, 7, false}, // no sector stays empty
		{16, 0, 6 * 128, 0, true},
		{16, 0, 6*128 + 1, 0, false},
		{16, 6 * 128, 0, 0, true},
		{16, 6*128 + 1, 0, 0, false},
		{16, 128, 3 * 128, 2, true},
		{16, 128, 3*128 + 1, 2, false},
		{16, 129, 3 * 128, 2, false},
		{16, 128, 3 * 128, 3, false},
		{16, -1, -1, -1, true},
		{16, -999, 6 * 128, -999, true}, // below 0 is none, and makes no room
		{16, math.MinInt, 6*128 + 1, math.MinInt, false},
		{17, 0, 0, 6, true},
		{17, 0, 0, 7, false},
		{4096, 2000 * 128, 40 * 128, 6, true},
		{4096, 2000 * 128, 40 * 128, 7, false},
		{15, 0, 0, 0, false},
		{4097, 0, 0, 0, false},
		{0, 0, 0, 0, false},
		{math.MaxInt, 0, 0, -1, false},
	} {
		if ok := Fits(c.n, c.pack, c.tail, c.records); ok != c.want {
			t.Error(c, ok)
		}
	}
}

func TestP9_2_HugeOnesDoNotFit(t *testing.T) {
	for _, x := range far() {
		for _, y := range append(far(), 0) {
			for _, z := range append(far(), 0) {
				if want := max(x, y, z) <= 0; Fits(16, x, y, z) != want {
					t.Error(x, y, z, !want)
				}
			}
			if room := Room(16, x, y); max(x, y) > 0 && room != 0 || max(x, y) <= 0 && room != 6*128 {
				t.Error(x, y, room)
			}
		}
	}
}

func TestP9_2_Room(t *testing.T) {
	for _, c := range []struct{ n, pack, records, want int }{
		{16, 0, 0, 6 * 128}, {16, 0, -1, 6 * 128}, {16, 128, 2, 3 * 128}, {16, 129, 2, 2 * 128}, {16, 0, 6, 0}, {16, 0, 7, 0}, {16, 0, 99, 0},
		{16, 7 * 128, 0, 0}, {16, 6 * 128, 0, 0}, {16, 5 * 128, 0, 128}, {17, 0, 0, 6 * 128}, {4096, 0, 0, 2046 * 128}, {15, 0, 0, 0}, {4097, 0, 0, 0},
	} {
		if room := Room(c.n, c.pack, c.records); room != c.want {
			t.Error(c, room)
		}
	}
	for _, n := range []int{16, 17, 40} {
		for pack := -1; pack < 9*128; pack += 61 {
			for records := -1; records < 9; records++ {
				room := Room(n, pack, records)
				if room%128 != 0 || room > 0 && !Fits(n, pack, room, records) || Fits(n, pack, room+1, records) {
					t.Error(n, pack, records, room)
				}
			}
		}
	}
}

func TestP9_3_Of(t *testing.T) {
	for _, c := range []struct {
		n             int
		h             api.Head
		tail, records int
		want          []int
	}{
		{16, api.Head{Pack: 100}, 200, 2, []int{0, 0, 1, 2, 2, 4, 4, 3, 3, 5, 5, 5, 5, 5, 5, 5}},
		{16, api.Head{Half: 1, Pack: 129}, 1, 1, []int{0, 0, 5, 5, 5, 5, 5, 5, 5, 1, 1, 2, 4, 4, 4, 3}},
		{17, api.Head{Half: 1}, 0, 0, []int{0, 0, 5, 5, 5, 5, 5, 5, 5, 4, 4, 4, 4, 4, 4, 4, 5}}, // the last one is in no half
		{16, api.Head{Half: 7, Pack: 1}, -1, -1, []int{0, 0, 1, 4, 4, 4, 4, 4, 4, 5, 5, 5, 5, 5, 5, 5}},
		{16, api.Head{Half: -1, Pack: -1}, 129, 9, []int{0, 0, 2, 2, 3, 3, 3, 3, 3, 5, 5, 5, 5, 5, 5, 5}},
		{16, api.Head{Pack: 9 * 128}, 9 * 128, 9, []int{0, 0, 1, 1, 1, 1, 1, 1, 1, 5, 5, 5, 5, 5, 5, 5}}, // the first one that is so
		{16, api.Head{Pack: 128}, 9 * 128, 9, []int{0, 0, 1, 2, 2, 2, 2, 2, 2, 5, 5, 5, 5, 5, 5, 5}},
		{16, api.Head{Pack: math.MaxInt}, math.MaxInt, math.MaxInt, []int{0, 0, 1, 1, 1, 1, 1, 1, 1, 5, 5, 5, 5, 5, 5, 5}},
		{16, api.Head{}, math.MaxInt, math.MinInt, []int{0, 0, 2, 2, 2, 2, 2, 2, 2, 5, 5, 5, 5, 5, 5, 5}},
		{16, api.Head{}, math.MinInt, math.MaxInt, []int{0, 0, 3, 3, 3, 3, 3, 3, 3, 5, 5, 5, 5, 5, 5, 5}},
	} {
		for i, want := range c.want {
			if k := Of(c.n, c.h, c.tail, c.records, i); k != want {
				t.Errorf("%v, sector %d: %d", c, i, k)
			}
		}
		for _, i := range []int{-1, c.n, c.n + 1, math.MinInt, math.MaxInt} {
			if k := Of(c.n, c.h, c.tail, c.records, i); k != 6 {
				t.Errorf("%v, sector %d: %d", c, i, k)
			}
		}
	}
	for _, n := range wrong() {
		for _, i := range []int{0, 1, 2, n - 1, n} {
			if k := Of(n, api.Head{}, 128, 1, i); k != 6 {
				t.Errorf("%d sectors, sector %d: %d", n, i, k)
			}
		}
	}
}

// parts are the sectors of a half for what they are: the pack, the log, the records, the one that stays empty.
func parts(t *testing.T, n, half, pack, tail, records int) [4][]int {
	var l [4][]int
	for i := range Sectors(pack) {
		l[0] = append(l[0], First(n, half)+i)
	}
	for i := range Sectors(tail) {
		l[1] = append(l[1], Log(n, half, pack)+i)
	}
	for seq := range records + 1 {
		p, e := Place(n, half, seq)
		if e != api.OK {
			t.Error(n, half, seq, e)
		}
		if seq == records {
			l[3] = append(l[3], p)
		} else {
			l[2] = append(l[2], p)
		}
	}
	return l
}

func TestP9_4_WhereAllFitsAllIsApart(t *testing.T) {
	fitted := 0
	for _, n := range []int{16, 17, 23} {
		for half := range 2 {
			for pack := 0; pack < 12*128; pack += 100 {
				for tail := 0; tail < 12*128; tail += 100 {
					for records := range 12 {
						if !Fits(n, pack, tail, records) {
							continue
						}
						fitted++
						apart(t, n, api.Head{Half: half, Pack: pack}, tail, records)
					}
				}
			}
		}
	}
	if fitted == 0 {
		t.Error("nothing fits")
	}
}

// apart tells whether no sector is for two things, and Of tells of each for what it is.
func apart(t *testing.T, n int, h api.Head, tail, records int) {
	t.Helper()
	l := parts(t, n, h.Half, h.Pack, tail, records)
	all := slices.Concat(l[:]...)
	slices.Sort(all)
	if len(slices.Compact(slices.Clone(all))) != len(all) || all[0] < First(n, h.Half) || all[len(all)-1] >= First(n, h.Half)+Half(n) {
		t.Fatal(n, h, tail, records, l)
	}
	for part, sectors := range l {
		for _, i := range sectors {
			if k := Of(n, h, tail, records, i); k != part+1 {
				t.Fatal(n, h, tail, records, i, k)
			}
		}
	}
}
