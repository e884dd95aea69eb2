package entry

import (
	"math"
	"strings"
	"testing"

	"pleach/api"
	"pleach/crc"
	"pleach/scan"
)

var (
	one = strings.Repeat("\x01", api.Hash)
	two = strings.Repeat("\xff", api.Hash)
)

// noughts are so many bytes 0.
func noughts(n int) string { return strings.Repeat("\x00", n) }

// full is a text as a sector.
func full(s string) string { return s + noughts(api.Sector-len(s)) }

// sealed is a sector with a text that is sealed.
func sealed(s string) string { return full(scan.PutText(crc.Seal(s))) }

// plain is a record that may be, and nothing special.
func plain() api.Record {
	return api.Record{Epoch: 3, Seq: 2, Kind: api.Tag, Name: "v1", Old: one, New: two, Tail: 700, Num: 9}
}

// with is a plain record with a change.
func with(change func(r *api.Record)) api.Record {
	r := plain()
	change(&r)
	return r
}

// records are some that may be, the edges among them.
func records() []api.Record {
	l := []api.Record{plain()}
	for _, n := range []int{1, 127, 128, api.MaxNum - 1, api.MaxNum} {
		l = append(l, with(func(r *api.Record) { r.Epoch = n }), with(func(r *api.Record) { r.Num = n }))
	}
	l = append(l, with(func(r *api.Record) { r.Num = api.MaxNum + 1 }))
	for _, n := range []int{0, 1, 127, 128, 4094, 4095} {
		l = append(l, with(func(r *api.Record) { r.Seq = n }))
	}
	for _, n := range []int{0, 1, 128, 4096*128 - 1, 4096 * 128} {
		l = append(l, with(func(r *api.Record) { r.Tail = n }))
	}
	for _, s := range []string{"a", "z", "0", "9", "-", "main", "abcdefghijkl"} {
		l = append(l, with(func(r *api.Record) { r.Name = s }))
	}
	longest := api.Record{Epoch: api.MaxNum, Seq: 4095, Kind: api.Tag, Name: "abcdefghijkl", Old: one, New: two, Tail: 4096 * 128, Num: api.MaxNum + 1}
	shortest := api.Record{Epoch: 1, Kind: api.Branch, Name: "m", New: one, Num: 1}
	return append(l, longest, shortest,
		with(func(r *api.Record) { r.Kind = api.Branch }),
		with(func(r *api.Record) { r.Old = "" }),
		with(func(r *api.Record) { r.New = "" }),
		with(func(r *api.Record) { r.New = one }), // from one to the same
		with(func(r *api.Record) { r.Old = noughts(api.Hash) }))
}

// wrong are records that may not be.
func wrong() []api.Record {
	l := []api.Record{{}}
	for _, n := range []int{0, -1, api.MaxNum + 1, math.MinInt, math.MaxInt} {
		l = append(l, with(func(r *api.Record) { r.Epoch = n }))
	}
	for _, n := range []int{-1, 4096, math.MinInt, math.MaxInt} {
		l = append(l, with(func(r *api.Record) { r.Seq = n }))
	}
	for _, n := range []int{0, 3, -1, math.MinInt, math.MaxInt} {
		l = append(l, with(func(r *api.Record) { r.Kind = n }))
	}
	for _, s := range []string{"", "A", "a b", "a_", "\x00", "\u00e9", "abcdefghijklm", strings.Repeat("a", 999)} {
		l = append(l, with(func(r *api.Record) { r.Name = s }))
	}
	for _, s := range []string{"a", one[1:], one + "a", strings.Repeat("a", 999)} {
		l = append(l, with(func(r *api.Record) { r.Old = s }), with(func(r *api.Record) { r.New = s }))
		l = append(l, with(func(r *api.Record) { r.Old, r.New = s, "" }))
	}
	l = append(l, with(func(r *api.Record) { r.Old, r.New = "", "" }))
	for _, n := range []int{-1, 4096*128 + 1, math.MinInt, math.MaxInt} {
		l = append(l, with(func(r *api.Record) { r.Tail = n }))
	}
	for _, n := range []int{0, -1, api.MaxNum + 2, math.MinInt, math.MaxInt} {
		l = append(l, with(func(r *api.Record) { r.Num = n }))
	}
	return l
}

// isEmpty tells whether a record is none.
func isEmpty(r api.Record) bool { return r == api.Record{} }

func TestP10_1_Check(t *testing.T) {
	for _, r := range records() {
		if e := Check(r); e != api.OK {
			t.Error(r, e)
		}
	}
	for _, r := range wrong() {
		if e := Check(r); e != api.ErrArg {
			t.Error(r, e)
		}
	}
}

func TestP10_1_Put(t *testing.T) {
	body := "R\x03\x02\x02" + "\x02v1" + "\x20" + one + "\x20" + two + "\xbc\x05\x09"
	if s, e := Put(plain()); s != sealed(body) || e != api.OK {
		t.Errorf("%q %v", s, e)
	}
	first := api.Record{Epoch: 1, Kind: api.Branch, Name: "m", New: one, Num: 1}
	if s, e := Put(first); s != sealed("R\x01\x00\x01\x01m\x00\x20"+one+"\x00\x01") || len(s) != api.Sector || e != api.OK {
		t.Errorf("%q %v", s, e)
	}
	for _, r := range records() {
		if s, e := Put(r); len(s) != api.Sector || e != api.OK {
			t.Error(r, len(s), e)
		}
	}
	for _, r := range wrong() {
		if s, e := Put(r); s != "" || e != api.ErrArg {
			t.Errorf("%v: %q %v", r, s, e)
		}
	}
}

func TestP10_1_TakeOfNone(t *testing.T) {
	good, _ := Put(plain())
	sums := "\x20" + one + "\x20" + two
	for what, s := range map[string]string{
		"nothing":                "",
		"ones":                   strings.Repeat("\xff", 128),
		"127 bytes":              good[:127],
		"129 bytes":              good + "\x00",
		"more behind":            good[:127] + "x",
		"no sum":                 full(scan.PutText("R\x03\x02\x02\x02v1" + sums + "\xbc\x05\x09")),
		"an empty text":          sealed(""),
		"another letter":         sealed("r\x03\x02\x02\x02v1" + sums + "\xbc\x05\x09"),
		"a head's letters":       sealed("pleach\x01\x00\x00\x01"),
		"the letter alone":       sealed("R"),
		"no number":              sealed("R\x03\x02\x02\x02v1" + sums + "\xbc\x05"),
		"a number more":          sealed("R\x03\x02\x02\x02v1" + sums + "\xbc\x05\x09\x00"),
		"a long number":          sealed("R\x83\x00\x02\x02\x02v1" + sums + "\xbc\x05\x09"),
		"epoch 0":                sealed("R\x00\x02\x02\x02v1" + sums + "\xbc\x05\x09"),
		"epoch 2^32":             sealed("R\x80\x80\x80\x80\x10\x02\x02\x02v1" + sums + "\xbc\x05\x09"),
		"seq 4096":               sealed("R\x03\x80\x20\x02\x02v1" + sums + "\xbc\x05\x09"),
		"kind 0":                 sealed("R\x03\x02\x00\x02v1" + sums + "\xbc\x05\x09"),
		"kind 3":                 sealed("R\x03\x02\x03\x02v1" + sums + "\xbc\x05\x09"),
		"no name":                sealed("R\x03\x02\x02\x00" + sums + "\xbc\x05\x09"),
		"another name":           sealed("R\x03\x02\x02\x02V1" + sums + "\xbc\x05\x09"),
		"a long name":            sealed("R\x03\x02\x02\x0dabcdefghijklm" + sums + "\xbc\x05\x09"),
		"a short sum":            sealed("R\x03\x02\x02\x02v1\x1f" + one[1:] + "\x20" + two + "\xbc\x05\x09"),
		"a long sum":             sealed("R\x03\x02\x02\x02v1\x21" + one + "a\x20" + two + "\xbc\x05\x09"),
		"from nothing to it":     sealed("R\x03\x02\x02\x02v1\x00\x00\xbc\x05\x09"),
		"a long tail":            sealed("R\x03\x02\x02\x02v1" + sums + "\x81\x80\x20\x09"),
		"number 0":               sealed("R\x03\x02\x02\x02v1" + sums + "\xbc\x05\x00"),
		"number 2^32 and one":    sealed("R\x03\x02\x02\x02v1" + sums + "\xbc\x05\x81\x80\x80\x80\x10"),
		"sealed, not measured":   full(crc.Seal("R\x03\x02\x02\x02v1" + sums + "\xbc\x05\x09")),
		"a text ahead of others": sealed("R\x02v1\x03\x02\x02" + sums + "\xbc\x05\x09"),
	} {
		if r, e := Take(s); !isEmpty(r) || e != api.ErrForm {
			t.Errorf("%s: %v %v", what, r, e)
		}
	}
	for i := range len(good) {
		for bit := range 8 {
			b := []byte(good)
			b[i] ^= 1 << bit
			if r, e := Take(string(b)); !isEmpty(r) || e != api.ErrForm {
				t.Errorf("bit %d of byte %d turned: %v %v", bit, i, r, e)
			}
		}
	}
}

func TestP10_1_Is(t *testing.T) {
	for _, want := range records() {
		s, _ := Put(want)
		if r, ok := Is(s, want.Epoch, want.Seq); r != want || !ok {
			t.Error(want, r, ok)
		}
		for _, c := range [][2]int{
			{want.Epoch + 1, want.Seq}, {want.Epoch - 1, want.Seq}, {want.Epoch, want.Seq + 1}, {want.Epoch, want.Seq - 1},
			{-want.Epoch, want.Seq}, {0, 0}, {math.MaxInt, math.MinInt},
		} {
			if r, ok := Is(s, c[0], c[1]); !isEmpty(r) || ok {
				t.Error(want, c, r, ok)
			}
		}
	}
	for _, s := range []string{"", noughts(128), strings.Repeat("\xff", 128), sealed("R")} {
		if r, ok := Is(s, 0, 0); !isEmpty(r) || ok { // what is none has epoch 0, seq 0 neither
			t.Errorf("%q: %v %v", s, r, ok)
		}
	}
}

func TestP10_2_TakeLeadsBackFromPut(t *testing.T) {
	seen := map[string]api.Record{}
	for _, r := range records() {
		s, e := Put(r)
		if e != api.OK {
			t.Fatal(r, e)
		}
		if x, e := Take(s); x != r || e != api.OK {
			t.Error(r, x, e)
		}
		if other, there := seen[s]; there && other != r {
			t.Error(r, other, "are one sector")
		}
		seen[s] = r
	}
}

func TestP10_2_NoughtsAreNoRecord(t *testing.T) {
	for _, n := range []int{0, 1, 127, 128, 129} {
		if r, e := Take(noughts(n)); !isEmpty(r) || e != api.ErrForm {
			t.Error(n, r, e)
		}
		if r, ok := Is(noughts(n), 1, 0); !isEmpty(r) || ok {
			t.Error(n, r, ok)
		}
	}
}
