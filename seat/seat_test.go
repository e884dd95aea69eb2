package seat

import (
	"math"
	"strings"
	"testing"

	"pleach/api"
	"pleach/crc"
	"pleach/scan"
)

// noughts are so many bytes 0.
func noughts(n int) string { return strings.Repeat("\x00", n) }

// full is a text as a sector.
func full(s string) string { return s + noughts(api.Sector-len(s)) }

// sealed is a sector with a text that is sealed.
func sealed(s string) string { return full(scan.PutText(crc.Seal(s))) }

// heads are some that may be, the edges among them.
func heads() []api.Head {
	var l []api.Head
	for _, epoch := range []int{1, 2, 127, 128, 1 << 31, api.MaxNum - 1, api.MaxNum} {
		for _, pack := range []int{0, 1, 128, 300, 4096*128 - 1, 4096 * 128} {
			for _, num := range []int{1, 2, 500, api.MaxNum, api.MaxNum + 1} {
				l = append(l, api.Head{Epoch: epoch, Half: 0, Pack: pack, Num: num}, api.Head{Epoch: epoch, Half: 1, Pack: pack, Num: num})
			}
		}
	}
	return l
}

// wrong are heads that may not be.
func wrong() []api.Head {
	return []api.Head{
		{},
		{Epoch: 0, Num: 1}, {Epoch: -1, Num: 1}, {Epoch: api.MaxNum + 1, Num: 1}, {Epoch: math.MinInt, Num: 1}, {Epoch: math.MaxInt, Num: 1},
		{Epoch: 1, Half: -1, Num: 1}, {Epoch: 1, Half: 2, Num: 1}, {Epoch: 1, Half: math.MaxInt, Num: 1}, {Epoch: 1, Half: math.MinInt, Num: 1},
		{Epoch: 1, Pack: -1, Num: 1}, {Epoch: 1, Pack: 4096*128 + 1, Num: 1}, {Epoch: 1, Pack: math.MaxInt, Num: 1}, {Epoch: 1, Pack: math.MinInt, Num: 1},
		{Epoch: 1}, {Epoch: 1, Num: -1}, {Epoch: 1, Num: api.MaxNum + 2}, {Epoch: 1, Num: math.MaxInt}, {Epoch: 1, Num: math.MinInt},
	}
}

// put is a head as a sector, where a test can't do without.
func put(t *testing.T, h api.Head) string {
	t.Helper()
	s, e := Put(h)
	if e != api.OK {
		t.Fatal(h, e)
	}
	return s
}

func TestP8_1_Check(t *testing.T) {
	for _, h := range heads() {
		if e := Check(h); e != api.OK {
			t.Error(h, e)
		}
	}
	for _, h := range wrong() {
		if e := Check(h); e != api.ErrArg {
			t.Error(h, e)
		}
	}
}

func TestP8_1_Full(t *testing.T) {
	for n := range api.Sector + 1 {
		text := strings.Repeat("x", n)
		if s, e := Full(text); s != text+noughts(api.Sector-n) || len(s) != api.Sector || e != api.OK {
			t.Errorf("%d bytes: %q %v", n, s, e)
		}
	}
	for _, n := range []int{api.Sector + 1, 1000} {
		if s, e := Full(strings.Repeat("x", n)); s != "" || e != api.ErrLimit {
			t.Errorf("%d bytes: %q %v", n, s, e)
		}
	}
}

func TestP8_1_Bare(t *testing.T) {
	for n := range api.Sector { // 127 bytes, and how many they are, fill a sector
		text := strings.Repeat("x", n)
		if s, e := Bare(full(scan.PutText(text))); s != text || e != api.OK {
			t.Errorf("%d bytes: %q %v", n, s, e)
		}
	}
	if s, e := Bare(noughts(128)); s != "" || e != api.OK {
		t.Error(s, e)
	}
	if s, e := Bare(full("\x02\x00\x00")); s != "\x00\x00" || e != api.OK {
		t.Errorf("%q %v", s, e)
	}
}

func TestP8_1_BareOfNone(t *testing.T) {
	for what, s := range map[string]string{
		"nothing":                       "",
		"a text alone":                  "\x01a",
		"127 bytes":                     "\x01a" + noughts(125),
		"129 bytes":                     "\x01a" + noughts(127),
		"127 noughts":                   noughts(127),
		"129 noughts":                   noughts(129),
		"more than noughts behind":      "\x01a" + noughts(125) + "a",
		"more right behind":             full("\x01ab"),
		"a text that goes beyond":       "\x7f" + strings.Repeat("x", 126),
		"of 128 bytes":                  full("\x80\x01" + strings.Repeat("x", 126)),
		"of 127 bytes, in a longer one": "\x7f" + strings.Repeat("x", 127) + "\x00",
		"of 129 bytes":                  full("\x81\x01" + strings.Repeat("x", 126)),
		"a long number":                 full("\x81\x00a"),
		"a long nought":                 full("\x80\x00"),
		"no number's end":               strings.Repeat("\xff", 128),
		"a great number":                full("\xff\xff\xff\xff\xff\xff\xff\xff\xff\x01"),
	} {
		if x, e := Bare(s); x != "" || e != api.ErrForm {
			t.Errorf("%s: %q %v", what, x, e)
		}
	}
}

func TestP8_1_Put(t *testing.T) {
	const lead = "pleach"
	for h, want := range map[api.Head]string{
		{Epoch: 1, Num: 1}:                                                  lead + "\x01\x00\x00\x01",
		{Epoch: 2, Half: 1, Pack: 300, Num: 128}:                            lead + "\x02\x01\xac\x02\x80\x01",
		{Epoch: api.MaxNum, Half: 1, Pack: 4096 * 128, Num: api.MaxNum + 1}: lead + "\xff\xff\xff\xff\x0f\x01\x80\x80\x20\x80\x80\x80\x80\x10",
	} {
		if s, e := Put(h); s != sealed(want) || e != api.OK {
			t.Errorf("%v: %q %v", h, s, e)
		}
	}
	if s := put(t, api.Head{Epoch: 1, Num: 1}); s[0] != 14 || s[1:11] != lead+"\x01\x00\x00\x01" || s[15:] != noughts(113) {
		t.Errorf("%q", s)
	}
	for _, h := range wrong() {
		if s, e := Put(h); s != "" || e != api.ErrArg {
			t.Errorf("%v: %q %v", h, s, e)
		}
	}
}

func TestP8_1_TakeOfNone(t *testing.T) {
	good := put(t, api.Head{Epoch: 1, Num: 1})
	for what, s := range map[string]string{
		"nothing":              "",
		"noughts":              noughts(128),
		"ones":                 strings.Repeat("\xff", 128),
		"127 bytes":            good[:127],
		"129 bytes":            good + "\x00",
		"more behind":          good[:127] + "x",
		"no sum":               full(scan.PutText("pleach\x01\x00\x00\x01")),
		"an empty text":        sealed(""),
		"other letters":        sealed("Pleach\x01\x00\x00\x01"),
		"letters alone":        sealed("pleach"),
		"no number":            sealed("pleach\x01\x00\x00"),
		"a number more":        sealed("pleach\x01\x00\x00\x01\x00"),
		"a long number":        sealed("pleach\x81\x00\x00\x00\x01"),
		"epoch 0":              sealed("pleach\x00\x00\x00\x01"),
		"epoch 2^32":           sealed("pleach\x80\x80\x80\x80\x10\x00\x00\x01"),
		"half 2":               sealed("pleach\x01\x02\x00\x01"),
		"a pack that is long":  sealed("pleach\x01\x00\x81\x80\x20\x01"),
		"number 0":             sealed("pleach\x01\x00\x00\x00"),
		"number 2^32 and one":  sealed("pleach\x01\x00\x00\x81\x80\x80\x80\x10"),
		"a number above all":   sealed("pleach\x01\x00\x00\xff\xff\xff\xff\xff\xff\xff\xff\xff\x01"),
		"sealed, not measured": full(crc.Seal("pleach\x01\x00\x00\x01")),
	} {
		if h, e := Take(s); h != (api.Head{}) || e != api.ErrForm {
			t.Errorf("%s: %v %v", what, h, e)
		}
	}
	for i := range len(good) {
		for bit := range 8 {
			b := []byte(good)
			b[i] ^= 1 << bit
			if h, e := Take(string(b)); h != (api.Head{}) || e != api.ErrForm {
				t.Errorf("bit %d of byte %d turned: %v %v", bit, i, h, e)
			}
		}
	}
}

func TestP8_2_Slot(t *testing.T) {
	for epoch, want := range map[int]int{0: 0, 1: 1, 2: 0, 3: 1, api.MaxNum: 1, api.MaxNum + 1: 0, -1: 1, -2: 0, math.MaxInt: 1, math.MinInt: 0} {
		if n := Slot(epoch); n != want {
			t.Errorf("Slot(%d) = %d", epoch, n)
		}
	}
}

func TestP8_2_Choose(t *testing.T) {
	head := func(epoch int) string {
		return put(t, api.Head{Epoch: epoch, Half: epoch & 1, Pack: epoch, Num: epoch})
	}
	none := noughts(128)
	for _, c := range []struct {
		a, b  string
		epoch int
	}{
		{none, none, 0},
		{"", "", 0},
		{none, head(1), 1},
		{head(1), none, 0}, // in the other slot
		{none, head(2), 0},
		{head(2), none, 2},
		{head(2), head(1), 2},
		{head(2), head(3), 3},
		{head(4), head(1), 4},
		{head(2), head(9), 9},
		{head(1), head(2), 0}, // both in the other's
		{head(3), head(1), 1}, // the greater one is in the other slot
		{head(2), head(4), 2},
		{head(2), "rubbish", 2},
		{strings.Repeat("\xff", 128), head(5), 5},
		{head(2)[:127] + "x", head(1), 1},
	} {
		h, ok := Choose(c.a, c.b)
		if h.Epoch != c.epoch || ok != (c.epoch > 0) {
			t.Errorf("%q %q: %v %v, want epoch %d", c.a, c.b, h, ok, c.epoch)
		}
		if want := (api.Head{Epoch: c.epoch, Half: c.epoch & 1, Pack: c.epoch, Num: c.epoch}); h != want {
			t.Error(h, want)
		}
	}
	last := api.Head{Epoch: api.MaxNum, Num: 1}
	if h, ok := Choose(put(t, api.Head{Epoch: api.MaxNum - 1, Num: 1}), put(t, last)); h != last || !ok {
		t.Error(h, ok)
	}
}

func TestP8_2_Next(t *testing.T) {
	for _, c := range []struct {
		h         api.Head
		pack, num int
		want      api.Head
		e         api.Errno
	}{
		{api.Head{Epoch: 1, Num: 1}, 100, 3, api.Head{Epoch: 2, Half: 1, Pack: 100, Num: 3}, api.OK},
		{api.Head{Epoch: 2, Half: 1, Pack: 100, Num: 3}, 0, 1, api.Head{Epoch: 3, Num: 1}, api.OK},
		{api.Head{Epoch: api.MaxNum - 1, Num: 1}, 4096 * 128, api.MaxNum + 1, api.Head{Epoch: api.MaxNum, Half: 1, Pack: 4096 * 128, Num: api.MaxNum + 1}, api.OK},
		{api.Head{Epoch: api.MaxNum, Num: 1}, 0, 1, api.Head{}, api.ErrLimit},
		{api.Head{Epoch: api.MaxNum, Num: 1}, -1, 0, api.Head{}, api.ErrLimit}, // ahead of what may not be
		{api.Head{Epoch: 1, Num: 1}, -1, 1, api.Head{}, api.ErrArg},
		{api.Head{Epoch: 1, Num: 1}, 4096*128 + 1, 1, api.Head{}, api.ErrArg},
		{api.Head{Epoch: 1, Num: 1}, 0, 0, api.Head{}, api.ErrArg},
		{api.Head{Epoch: 1, Num: 1}, 0, api.MaxNum + 2, api.Head{}, api.ErrArg},
		{api.Head{Epoch: 1, Num: 1}, math.MaxInt, math.MinInt, api.Head{}, api.ErrArg},
		{api.Head{Epoch: api.MaxNum, Half: 2, Num: 1}, 0, 1, api.Head{}, api.ErrArg}, // ahead of the limit
	} {
		if h, e := Next(c.h, c.pack, c.num); h != c.want || e != c.e {
			t.Errorf("%v, %d, %d: %v %v", c.h, c.pack, c.num, h, e)
		}
	}
	for _, h := range wrong() {
		if x, e := Next(h, 0, 1); x != (api.Head{}) || e != api.ErrArg {
			t.Error(h, x, e)
		}
	}
}

func TestP8_3_TakeLeadsBackFromPut(t *testing.T) {
	seen := map[string]api.Head{}
	for _, h := range heads() {
		s := put(t, h)
		if x, e := Take(s); x != h || e != api.OK {
			t.Error(h, x, e)
		}
		if other, there := seen[s]; there {
			t.Error(h, other, "are one sector")
		}
		seen[s] = h
	}
}

// older are what may stand in a slot where a head of an epoch is to come: noughts, rubbish, and older heads.
func older(t *testing.T, epoch int) []string {
	l := []string{noughts(128), strings.Repeat("\xff", 128), "rubbish"}
	for back := epoch - 2; back > 0 && back > epoch-9; back -= 2 {
		l = append(l, put(t, api.Head{Epoch: back, Half: 1, Pack: 9, Num: 9}))
	}
	return l
}

// seats are the sectors 0 and 1, with a head in its slot and another text in the other one.
func seats(t *testing.T, h api.Head, other string) [2]string {
	l := [2]string{other, other}
	l[Slot(h.Epoch)] = put(t, h)
	return l
}

func TestP8_3_TheNextHeadIsChosenIfItCame(t *testing.T) {
	for _, h := range heads() {
		next, e := Next(h, 256, 7)
		if h.Epoch == api.MaxNum {
			if e != api.ErrLimit {
				t.Error(h, e)
			}
			continue
		}
		if e != api.OK || next.Half == h.Half || Slot(next.Epoch) == Slot(h.Epoch) {
			t.Fatal(h, next, e)
		}
		for _, old := range older(t, next.Epoch) {
			l := seats(t, h, old)
			if x, ok := Choose(l[0], l[1]); x != h || !ok {
				t.Fatal("it did not come:", h, x, ok)
			}
			l[Slot(next.Epoch)] = put(t, next)
			if x, ok := Choose(l[0], l[1]); x != next || !ok {
				t.Fatal("it came:", h, x, ok)
			}
		}
	}
}
