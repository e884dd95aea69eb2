package pack

import (
	"slices"
	"strings"
	"testing"

	"pleach/api"
	"pleach/crc"
	"pleach/delta"
	"pleach/fan"
	"pleach/scan"
	"pleach/sha"
)

// seat is where an object stands, as a test lays it by hand.
type seat struct {
	name string
	at   int
}

// byHand is the bytes of a pack, whose seats' names rise.
func byHand(data string, l ...seat) string {
	var names []string
	places := ""
	for _, x := range l {
		names = append(names, x.name)
		places += scan.PutNum(x.at)
	}
	f, _ := fan.Of(names)
	return crc.Seal("P" + scan.PutNum(len(l)) + f.Put() + strings.Join(names, "") + places + data)
}

// thing is an object: a text that is whole, or a delta of the thing with a number, from 1 on.
type thing struct {
	name string
	base int
	body string
}

func plain(text string) thing { return thing{name: sha.Sum(text), body: text} }

// lay is the bytes of a pack of things, which stand in its data in their order.
func lay(things ...thing) string {
	sorted := slices.SortedFunc(slices.Values(things), func(a, b thing) int { return strings.Compare(a.name, b.name) })
	rank := func(k int) int {
		return slices.IndexFunc(sorted, func(x thing) bool { return x.name == things[k].name })
	}
	seats := make([]seat, len(things))
	data := ""
	for i, x := range things {
		seats[rank(i)] = seat{x.name, len(data)}
		sign := 0
		if x.base > 0 {
			sign = rank(x.base-1) + 1
		}
		data += scan.PutNum(sign) + scan.PutText(x.body)
	}
	return byHand(data, seats...)
}

func open(t *testing.T, s string) *Pack {
	t.Helper()
	p, e := Open(s)
	if e != api.OK || p == nil {
		t.Fatal(e)
	}
	return p
}

// alone is a pack of one object, with a text's name, and data; and that name.
func alone(t *testing.T, text, data string) (*Pack, string) {
	t.Helper()
	return open(t, byHand(data, seat{name: sha.Sum(text)})), sha.Sum(text)
}

// gets tells what must be told of an object.
func gets(t *testing.T, p *Pack, name, text string, e api.Errno) {
	t.Helper()
	if s, f := p.Get(name); s != text || f != e {
		t.Errorf("%.20q (%d bytes) %v, want %.20q %v", s, len(s), f, text, e)
	}
}

func deep(t *testing.T, p *Pack, name string, depth int, e api.Errno) {
	t.Helper()
	if n, f := p.Depth(name); n != depth || f != e {
		t.Errorf("depth %d %v, want %d %v", n, f, depth, e)
	}
}

func sumOf(first, fill byte) string {
	return string([]byte{first}) + strings.Repeat(string([]byte{fill}), 31)
}

// deltaOf is a text as a delta, where a test can't do without.
func deltaOf(t *testing.T, base, text string) string {
	t.Helper()
	s, e := delta.Encode(base, text)
	if e != api.OK {
		t.Fatal(e)
	}
	return s
}

// chain is things that lead one to the other: the last one's depth is how many stand ahead.
func chain(t *testing.T, depth int) ([]thing, []string) {
	text := "the first one of all, which is whole"
	things, texts := []thing{plain(text)}, []string{text}
	for i := range depth {
		next := text + strings.Repeat("!", i+1)
		things = append(things, thing{sha.Sum(next), i + 1, deltaOf(t, text, next)})
		texts = append(texts, next)
		text = next
	}
	return things, texts
}

func TestP13_1_APackByHand(t *testing.T) {
	a, b := "a text that is whole", "a text that is a delta"
	x := lay(plain(a), thing{sha.Sum(b), 1, deltaOf(t, a, b)})
	p := open(t, x)
	if p.Count() != 2 || !slices.Equal(p.Names(), slices.Sorted(slices.Values([]string{sha.Sum(a), sha.Sum(b)}))) {
		t.Error(p.Count(), p.Names())
	}
	gets(t, p, sha.Sum(a), a, api.OK)
	gets(t, p, sha.Sum(b), b, api.OK)
	deep(t, p, sha.Sum(a), 0, api.OK)
	deep(t, p, sha.Sum(b), 1, api.OK)
	if l, e := p.All(); !slices.Equal(l, []string{a, b}) || e != api.OK {
		t.Error(l, e)
	}
}

func TestP13_1_ABaseMayStandBehind(t *testing.T) {
	a, b := "a text that is whole", "a text that is a delta"
	p := open(t, lay(thing{sha.Sum(b), 2, deltaOf(t, a, b)}, plain(a)))
	gets(t, p, sha.Sum(b), b, api.OK)
	if l, e := p.All(); !slices.Equal(l, []string{b, a}) || e != api.OK {
		t.Error(l, e)
	}
}

func TestP13_1_UpToFourDeltas(t *testing.T) {
	for depth := range 8 {
		things, texts := chain(t, depth)
		p := open(t, lay(things...))
		for i, s := range texts {
			if i > api.MaxDepth {
				gets(t, p, sha.Sum(s), "", api.ErrRot)
				deep(t, p, sha.Sum(s), 0, api.ErrRot)
				continue
			}
			gets(t, p, sha.Sum(s), s, api.OK)
			deep(t, p, sha.Sum(s), i, api.OK)
		}
		l, e := p.All()
		if depth <= api.MaxDepth && (!slices.Equal(l, texts) || e != api.OK) || depth > api.MaxDepth && (l != nil || e != api.ErrRot) {
			t.Error(depth, l, e)
		}
	}
}

func TestP13_1_DeltasThatGoRound(t *testing.T) {
	p := open(t, lay(thing{sumOf(1, 'a'), 1, ""}))
	gets(t, p, sumOf(1, 'a'), "", api.ErrRot)
	deep(t, p, sumOf(1, 'a'), 0, api.ErrRot)
	p = open(t, lay(thing{sumOf(1, 'a'), 2, ""}, thing{sumOf(2, 'a'), 3, ""}, thing{sumOf(3, 'a'), 1, ""}, plain("a")))
	for k := range 3 {
		gets(t, p, sumOf(byte(k+1), 'a'), "", api.ErrRot)
		deep(t, p, sumOf(byte(k+1), 'a'), 0, api.ErrRot)
	}
	gets(t, p, sha.Sum("a"), "a", api.OK)
	if l, e := p.All(); l != nil || e != api.ErrRot {
		t.Error(l, e)
	}
}

func TestP13_3_Open(t *testing.T) {
	noughts := strings.Repeat("\x00", 16)
	for _, s := range []string{
		crc.Seal("P\x00" + noughts),
		crc.Seal("P\x00" + noughts + "what stands in the data is not looked at"),
	} {
		p := open(t, s)
		if l, e := p.All(); p.Count() != 0 || p.Names() != nil || l != nil || e != api.OK {
			t.Error(p.Count(), p.Names(), l, e)
		}
		gets(t, p, sha.Sum("a"), "", api.ErrNone)
	}
	var many []seat
	for i := range api.MaxObjects {
		many = append(many, seat{name: string([]byte{byte(i >> 8), byte(i)}) + strings.Repeat("a", 30)})
	}
	if p := open(t, byHand("", many...)); p.Count() != 4096 || len(p.Names()) != 4096 {
		t.Error(p.Count())
	}
	many = append(many, seat{name: sumOf(0xff, 'a')})
	if p, e := Open(byHand("", many...)); p != nil || e != api.ErrForm {
		t.Error(e)
	}
	p := open(t, byHand("\xff", seat{sumOf(1, 'a'), 1 << 30}))
	gets(t, p, sumOf(1, 'a'), "", api.ErrRot)
	if p, e := Open(byHand("\xff", seat{sumOf(1, 'a'), 1<<30 + 1})); p != nil || e != api.ErrForm {
		t.Error(e)
	}
}

func TestP13_3_OpenOfNone(t *testing.T) {
	a, b := sumOf(0x1f, 'a'), sumOf(0x2f, 'a')
	fan1 := "\x00" + strings.Repeat("\x01", 15)
	fan2 := "\x00\x01" + strings.Repeat("\x02", 14)
	noughts := strings.Repeat("\x00", 16)
	for what, s := range map[string]string{
		"a right one":              "P\x02" + fan2 + a + b + "\x00\x00data",
		"nothing":                  "",
		"another letter":           "p\x02" + fan2 + a + b + "\x00\x00data",
		"no letter":                "\x02" + fan2 + a + b + "\x00\x00data",
		"a letter alone":           "P",
		"no fan":                   "P\x00",
		"a long number":            "P\x82\x00" + fan2 + a + b + "\x00\x00data",
		"a great number":           "P\xff\xff\xff\xff\xff\xff\xff\xff\xff\x01" + fan2 + a + b + "\x00\x00data",
		"more than are there":      "P\x03" + fan2 + a + b + "\x00\x00data",
		"fewer than are there":     "P\x01" + fan2 + a + b + "\x00\x00data",
		"none, and a fan":          "P\x00" + fan2 + a + b + "\x00\x00data",
		"another fan":              "P\x02" + "\x00\x00" + strings.Repeat("\x02", 14) + a + b + "\x00\x00data",
		"a fan of one":             "P\x02" + fan1 + a + b + "\x00\x00data",
		"a fan that falls":         "P\x02" + "\x00\x01\x02\x01" + strings.Repeat("\x02", 12) + a + b + "\x00\x00data",
		"a short fan":              "P\x00" + noughts[1:],
		"a name too few":           "P\x02" + fan2 + a,
		"a short name":             "P\x02" + fan2 + a + b[1:],
		"names that fall":          "P\x02" + fan2 + b + a + "\x00\x00data",
		"a name twice":             "P\x02" + "\x00" + strings.Repeat("\x02", 15) + a + a + "\x00\x00data",
		"names that fall in parts": "P\x02" + "\x00" + strings.Repeat("\x02", 15) + sumOf(0x1f, 'b') + a + "\x00\x00data",
		"no places":                "P\x02" + fan2 + a + b,
		"one place":                "P\x02" + fan2 + a + b + "\x00",
		"a long place":             "P\x02" + fan2 + a + b + "\x80\x00\x00data",
	} {
		p, e := Open(crc.Seal(s))
		if right := what == "a right one"; right != (e == api.OK) || right != (p != nil) || !right && e != api.ErrForm {
			t.Errorf("%s: %v", what, e)
		}
		if p, e := Open(s); p != nil || e != api.ErrForm {
			t.Errorf("%s, not sealed: %v", what, e)
		}
	}
	s := lay(plain("a"), plain("b"))
	for i := range len(s) {
		if p, e := Open(s[:i]); p != nil || e != api.ErrForm {
			t.Errorf("%d bytes: %v", i, e)
		}
		if p, e := Open(s[:i] + string([]byte{s[i] ^ 0x10}) + s[i+1:]); p != nil || e != api.ErrForm {
			t.Errorf("byte %d: %v", i, e)
		}
	}
	if p, e := Open(s + "\x00"); p != nil || e != api.ErrForm {
		t.Error(e)
	}
}

func TestP13_3_NoPack(t *testing.T) {
	for _, p := range []*Pack{nil, {}} {
		if p.Count() != 0 || p.Names() != nil {
			t.Error(p.Count(), p.Names())
		}
		gets(t, p, sha.Sum("a"), "", api.ErrNil)
		gets(t, p, "", "", api.ErrNil)
		deep(t, p, sha.Sum("a"), 0, api.ErrNil)
		if l, e := p.All(); l != nil || e != api.ErrNil {
			t.Error(l, e)
		}
	}
}

func TestP13_3_NoSuchName(t *testing.T) {
	p := open(t, lay(plain("a"), plain("b")))
	for _, name := range []string{"", "a", sha.Sum("c"), sha.Sum("a")[:31], sha.Sum("a") + "a", sumOf(0, 0), sumOf(0xff, 0xff)} {
		gets(t, p, name, "", api.ErrNone)
		deep(t, p, name, 0, api.ErrNone)
	}
}

func TestP13_3_NothingStandsThere(t *testing.T) {
	for _, data := range []string{
		"", "\x00", "\x00\x02a", "\x00\x80\x00", "\x80\x00\x01a", "\x00\x81\x00a", "\x80", // a text that is not all there, numbers that are none
		"\x02\x00", "\x02\x01a", "\x7f\x00", "\xff\xff\xff\xff\xff\xff\xff\xff\xff\x01\x00", // of no base
		"\x01", "\x01\x02a", "\x01\x80\x00",
	} {
		p, name := alone(t, "a", data)
		gets(t, p, name, "", api.ErrRot)
		deep(t, p, name, 0, api.ErrRot)
		if l, e := p.All(); l != nil || e != api.ErrRot {
			t.Errorf("%q: %v %v", data, l, e)
		}
	}
	for at, e := range map[int]api.Errno{0: api.ErrRot, 1: api.OK, 4: api.ErrRot, 5: api.ErrRot, 1 << 30: api.ErrRot} {
		p := open(t, byHand("\x55\x00\x01a", seat{sha.Sum("a"), at}))
		deep(t, p, sha.Sum("a"), 0, e)
		if s, f := p.Get(sha.Sum("a")); (s == "a") != (e == api.OK) || f != e {
			t.Errorf("at %d: %q %v", at, s, f)
		}
	}
	p := open(t, lay(thing{sha.Sum("b"), 2, "\x02b"}, thing{sha.Sum("c"), 3, "\x02c"}, plain("a"), thing{sha.Sum("d"), 0, "x"}))
	gets(t, p, sha.Sum("b"), "b", api.OK)
	deep(t, p, sha.Sum("b"), 2, api.OK)
}

func TestP13_3_AnotherName(t *testing.T) {
	p, name := alone(t, "b", "\x00\x01a")
	gets(t, p, name, "", api.ErrRot)
	deep(t, p, name, 0, api.OK) // nothing is held against the name
	a, b := "a text that is whole", "a text that is a delta"
	p = open(t, lay(plain(a), thing{sumOf(1, 'a'), 1, deltaOf(t, a, b)}))
	gets(t, p, sumOf(1, 'a'), "", api.ErrRot)
	deep(t, p, sumOf(1, 'a'), 1, api.OK)
	gets(t, p, sha.Sum(a), a, api.OK)
	if l, e := p.All(); l != nil || e != api.ErrRot {
		t.Error(l, e)
	}
	p = open(t, lay(thing{sumOf(1, 'a'), 0, a}, thing{sha.Sum(b), 1, deltaOf(t, a, b)})) // it is the object's own name that counts
	gets(t, p, sha.Sum(b), b, api.OK)
	gets(t, p, sumOf(1, 'a'), "", api.ErrRot)
}

func TestP13_3_ADeltaThatDoesNotApply(t *testing.T) {
	base := "a text that is whole"
	for _, d := range []string{"\x00", "\x01\x00", "\x04b", "\x11", "\x11\x00\x02", "\x05\x13", "\x03\x14", "\x82\x00b"} {
		p := open(t, lay(plain(base), thing{sha.Sum("b"), 1, d}))
		gets(t, p, sha.Sum("b"), "", api.ErrRot)
		deep(t, p, sha.Sum("b"), 1, api.OK) // deltas are not applied
		if l, e := p.All(); l != nil || e != api.ErrRot {
			t.Errorf("%q: %v %v", d, l, e)
		}
		p = open(t, lay(plain(base), thing{sumOf(1, 'a'), 1, d}, thing{sha.Sum("b"), 2, "\x02b"})) // on the way
		gets(t, p, sha.Sum("b"), "", api.ErrRot)
		deep(t, p, sha.Sum("b"), 2, api.OK)
	}
	full := strings.Repeat("a", 1<<16)
	p := open(t, lay(plain(full), thing{sha.Sum(full + "b"), 1, "\x81\x80\x08\x00\x02b"}))
	gets(t, p, sha.Sum(full+"b"), "", api.ErrRot)
}

func TestP13_3_HowManyBytesThereMayBe(t *testing.T) {
	full := strings.Repeat("a", 1<<16)
	p := open(t, lay(plain(full), plain(full+"a")))
	gets(t, p, sha.Sum(full), full, api.OK)
	gets(t, p, sha.Sum(full+"a"), "", api.ErrRot)
	deep(t, p, sha.Sum(full+"a"), 0, api.ErrRot)
	p = open(t, lay(plain(full), thing{sha.Sum(full[:1]), 1, "\x03\x00"}, thing{sha.Sum("b" + full[1:]), 1, "\x02b" + strings.Repeat("\x03\x00", 1<<16-1)}))
	gets(t, p, sha.Sum("a"), "a", api.OK)
	gets(t, p, sha.Sum("b"+full[1:]), "b"+full[1:], api.OK) // of a delta of 2^17 bytes
	long := "\x03\x80\x01" + strings.Repeat("\x03\x00", 1<<16-1)
	p = open(t, lay(plain(full), thing{sha.Sum("b"), 1, long}, thing{sha.Sum("c"), 2, "\x02c"})) // of one byte more
	for _, s := range []string{"b", "c"} {
		gets(t, p, sha.Sum(s), "", api.ErrRot)
		deep(t, p, sha.Sum(s), 0, api.ErrRot)
	}
}

func TestP13_3_AllByTheirPlaces(t *testing.T) {
	data := "rubbish"
	var texts []string
	var seats []seat
	for _, s := range []string{"one", "two", "three", "four", "five", "six", "seven", "eight", "nine", "ten"} {
		seats = append(seats, seat{sha.Sum(s), len(data)})
		data += "\x00" + scan.PutText(s) + "rubbish"
		texts = append(texts, s)
	}
	slices.SortFunc(seats, func(a, b seat) int { return strings.Compare(a.name, b.name) })
	p := open(t, byHand(data, seats...))
	if l, e := p.All(); !slices.Equal(l, texts) || e != api.OK {
		t.Error(l, e)
	}
	if at := slices.IndexFunc(seats, func(x seat) bool { return x.name == sha.Sum("one") }); at == 0 {
		t.Error("the names stand as the texts do")
	}
	seats[0].at = seats[1].at // two of one place can't both have their names
	p = open(t, byHand(data, seats...))
	if l, e := p.All(); l != nil || e != api.ErrRot {
		t.Error(l, e)
	}
}

func TestP13_3_AnswersAreApart(t *testing.T) {
	p := open(t, lay(plain("a"), plain("b"), plain("c")))
	names, other := p.Names(), p.Names()
	names[0] = "x"
	_ = append(names[:1], "y")
	all, again := p.All()
	all[0] = "x"
	_ = append(all[:1], "y")
	if !slices.Equal(p.Names(), other) || again != api.OK {
		t.Error(p.Names(), again)
	}
	if l, e := p.All(); !slices.Equal(l, []string{"a", "b", "c"}) || e != api.OK {
		t.Error(l, e)
	}
	gets(t, p, sha.Sum("a"), "a", api.OK)
}

// TestP13_3_WhateverIsThere turns bytes of packs, and seals them anew: what is opened then is looked at, and all calls end.
func TestP13_3_WhateverIsThere(t *testing.T) {
	things, _ := chain(t, 4)
	s := lay(things...)
	text := s[:len(s)-4]
	opened := 0
	for i := range len(text) {
		for _, by := range []byte{1, 2, 4, 0x10, 0x80, 0xff} {
			p, e := Open(crc.Seal(text[:i] + string([]byte{text[i] ^ by}) + text[i+1:]))
			if e != api.OK {
				continue
			}
			opened++
			for _, name := range p.Names() {
				if got, e := p.Get(name); e == api.OK && sha.Sum(got) != name || e != api.OK && (e != api.ErrRot || got != "") {
					t.Error(i, by, got, e)
				}
				if n, e := p.Depth(name); n < 0 || n > api.MaxDepth || e != api.OK && (e != api.ErrRot || n != 0) {
					t.Error(i, by, n, e)
				}
			}
			if l, e := p.All(); e == api.OK && len(l) != p.Count() || e != api.OK && (e != api.ErrRot || l != nil) {
				t.Error(i, by, l, e)
			}
		}
	}
	if opened == 0 {
		t.Error("none is opened")
	}
}
