package pack

import (
	"slices"
	"strconv"
	"strings"
	"testing"

	"pleach/api"
	"pleach/crc"
	"pleach/fan"
	"pleach/scan"
	"pleach/sha"
)

func long(n int) string { return strings.Repeat("a", n) }

// random is n bytes that have no row of bytes twice.
func random(n int) string {
	b := make([]byte, n)
	seed := uint32(n)
	for i := range b {
		seed = seed*1664525 + 1013904223
		b[i] = byte(seed >> 24)
	}
	return string(b)
}

// versions are n texts, each the one ahead but for a few bytes.
func versions(n, size int) []string {
	b := []byte(random(size))
	var l []string
	for i := range n {
		copy(b[i*13%(size-8):], strconv.Itoa(i)+"-")
		l = append(l, string(b))
	}
	return l
}

// rows are rows of texts that may be packed.
func rows() [][]string {
	var small, mixed []string
	for i := range api.MaxObjects {
		small = append(small, strconv.Itoa(i))
	}
	for i, s := range versions(60, 400) {
		mixed = append(mixed, s, random(20+i), s[:200]+strconv.Itoa(i)+s[150:], long(i+1))
	}
	big := random(1 << 16)
	return [][]string{
		nil, {"a"}, {"\x00"}, {"b", "a"}, {long(8), long(9), long(7)}, {long(1 << 16)}, {big, big[1:], "x" + big[1:], long(1<<16 - 8)},
		versions(40, 300), versions(300, 64), versions(9, 5000), small, mixed,
	}
}

func packed(t *testing.T, texts ...string) (*Pack, string) {
	t.Helper()
	s, e := Make(texts...)
	if e != api.OK {
		t.Fatal(e)
	}
	return open(t, s), s
}

// sizeWhole is how many bytes a pack has if all its objects are whole.
func sizeWhole(texts []string) int {
	var data strings.Builder
	var seats []seat
	for _, s := range texts {
		seats = append(seats, seat{sha.Sum(s), data.Len()})
		data.WriteString("\x00" + scan.PutText(s))
	}
	slices.SortFunc(seats, func(a, b seat) int { return strings.Compare(a.name, b.name) })
	return len(byHand(data.String(), seats...))
}

func TestP13_1_TheBytesOfOne(t *testing.T) {
	want := crc.Seal("P\x01" + strings.Repeat("\x00", 12) + strings.Repeat("\x01", 4) + sha.Sum("a") + "\x00" + "\x00\x01a")
	if _, s := packed(t, "a"); sha.Sum("a")[0]>>4 != 12 || s != want {
		t.Errorf("%x, want %x", s, want)
	}
	if _, s := packed(t); s != crc.Seal("P\x00"+strings.Repeat("\x00", 16)) {
		t.Errorf("%x", s)
	}
}

// TestP13_1_TheBytesOfMany reads what Make lays, piece by piece: the texts stand in their order, one behind the other, and nothing else is there.
func TestP13_1_TheBytesOfMany(t *testing.T) {
	for _, texts := range rows() {
		_, s := packed(t, texts...)
		s, ok := crc.Open(s)
		r := scan.New(s)
		if !ok || r.Fix(1) != "P" || r.Num(api.MaxObjects) != len(texts) {
			t.Fatal(len(texts), ok, r.Err())
		}
		f := fan.Read(r, len(texts))
		var names []string
		place := map[string]int{}
		for range texts {
			names = append(names, r.Fix(api.Hash))
		}
		for _, name := range names {
			place[name] = r.Num(1 << 30)
		}
		at := r.At()
		for i, text := range texts {
			if place[sha.Sum(text)] != r.At()-at {
				t.Fatal(i, place[sha.Sum(text)], r.At()-at)
			}
			base, body := r.Num(len(texts)), r.Text(1<<17)
			if r.Err() != api.OK || base == 0 && body != text {
				t.Fatal(i, base, r.Err())
			}
		}
		if want, e := fan.Of(names); f != want || e != api.OK || r.End() != api.OK {
			t.Error(len(texts), e, r.Err())
		}
	}
}

func TestP13_2_Limits(t *testing.T) {
	var many []string
	for i := range api.MaxObjects {
		many = append(many, strconv.Itoa(i))
	}
	if p, _ := packed(t, many...); p.Count() != api.MaxObjects {
		t.Error(p.Count())
	}
	full, more := long(1<<16), long(1<<16+1)
	for what, c := range map[string]struct {
		texts []string
		want  api.Errno
	}{
		"too many":                       {append(many, "x"), api.ErrLimit},
		"too many, one empty":            {append(many, ""), api.ErrLimit},
		"too many, one twice":            {append(many, "0"), api.ErrLimit},
		"an empty one":                   {[]string{""}, api.ErrArg},
		"one empty, behind others":       {[]string{"a", "b", ""}, api.ErrArg},
		"a long one":                     {[]string{more}, api.ErrLimit},
		"a long one, behind others":      {[]string{"a", more}, api.ErrLimit},
		"one twice":                      {[]string{"a", "a"}, api.ErrTwice},
		"one twice, not beside":          {[]string{"a", "b", "c", "a"}, api.ErrTwice},
		"a great one twice":              {[]string{full, "a", full}, api.ErrTwice},
		"an empty one ahead of a long":   {[]string{"", more}, api.ErrArg},
		"a long one ahead of an empty":   {[]string{more, ""}, api.ErrLimit},
		"one twice ahead of an empty":    {[]string{"a", "a", ""}, api.ErrTwice},
		"an empty one ahead of twice":    {[]string{"a", "", "a"}, api.ErrArg},
		"empty ones are not told twice":  {[]string{"", ""}, api.ErrArg},
		"a long one is not told as such": {[]string{more, more}, api.ErrLimit},
	} {
		if s, e := Make(c.texts...); s != "" || e != c.want {
			t.Errorf("%s: %d bytes, %v", what, len(s), e)
		}
	}
	packed(t, full, long(1<<16-1), "a")
}

// TestP13_2_Clash has sums that are not SHA-256: of that no two unlike texts with one sum are known.
func TestP13_2_Clash(t *testing.T) {
	first := func(parts ...string) string { return parts[0][:1] }
	for _, c := range []struct {
		texts []string
		want  api.Errno
	}{
		{[]string{"a1", "b1"}, api.OK},
		{[]string{"a1", "b1", "a2"}, api.ErrClash},
		{[]string{"a1", "b1", "a1"}, api.ErrTwice},
		{[]string{"a1", "a2", "a1"}, api.ErrClash},
		{[]string{"a1", "a1", "a2"}, api.ErrTwice},
		{[]string{"a1", "", "a2"}, api.ErrArg},
		{[]string{"a1", "a2", ""}, api.ErrClash},
		{[]string{"a1", "a" + long(1<<16)}, api.ErrLimit},
	} {
		which, e := named(first, c.texts)
		if e != c.want || (which == nil) != (e != api.OK) {
			t.Errorf("%.20q: %v %v", c.texts, which, e)
		}
	}
	if _, s := packed(t, "a1", "a2"); s == "" {
		t.Error("they have not one SHA-256")
	}
}

func TestP13_2_NoMoreBytesThanWhole(t *testing.T) {
	for _, texts := range rows() {
		if _, s := packed(t, texts...); len(s) > sizeWhole(texts) {
			t.Error(len(texts), len(s), sizeWhole(texts))
		}
	}
	half := random(40)
	for i := range 40 { // of what little is alike a delta may be longer
		texts := []string{half, half[:i] + random(60-i)}
		if _, s := packed(t, texts...); len(s) > sizeWhole(texts) {
			t.Error(i, len(s), sizeWhole(texts))
		}
	}
}

func TestP13_2_WhatIsAlikeTakesLittle(t *testing.T) {
	for _, c := range []struct{ n, size, part int }{{2, 300, 1}, {40, 300, 2}, {300, 2000, 3}, {9, 60000, 3}} {
		texts := versions(c.n, c.size)
		p, s := packed(t, texts...)
		if len(s) > sizeWhole(texts[:1])+(c.n-1)*(80+c.size/c.part) {
			t.Error(c, len(s))
		}
		deltas := 0
		for _, x := range texts {
			n, e := p.Depth(sha.Sum(x))
			if e != api.OK || n > api.MaxDepth {
				t.Error(n, e)
			}
			deltas += min(n, 1)
		}
		if deltas < c.n/2 {
			t.Error(c, deltas)
		}
	}
}

func TestP13_4_WhatWasPackedIsGot(t *testing.T) {
	for _, texts := range rows() {
		p, _ := packed(t, texts...)
		var names []string
		for _, x := range texts {
			names = append(names, sha.Sum(x))
			gets(t, p, sha.Sum(x), x, api.OK)
			if n, e := p.Depth(sha.Sum(x)); n < 0 || n > api.MaxDepth || e != api.OK {
				t.Error(n, e)
			}
		}
		slices.Sort(names)
		if p.Count() != len(texts) || !slices.Equal(p.Names(), names) {
			t.Error(len(texts), p.Count())
		}
		gets(t, p, sha.Sum("not there"), "", api.ErrNone)
		if l, e := p.All(); !slices.Equal(l, texts) || e != api.OK {
			t.Error(len(texts), len(l), e)
		}
	}
}

func TestP13_4_OneRowHasOnePack(t *testing.T) {
	for _, texts := range rows() {
		kept := slices.Clone(texts)
		_, s := packed(t, texts...)
		if _, again := packed(t, slices.Clone(texts)...); again != s {
			t.Error(len(texts), "unlike bytes")
		}
		if !slices.Equal(texts, kept) {
			t.Error(len(texts), "the row is another one")
		}
	}
}
