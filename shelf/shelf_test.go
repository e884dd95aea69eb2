package shelf

import (
	"math"
	"slices"
	"strconv"
	"strings"
	"testing"

	"pleach/api"
	"pleach/sha"
)

// of is a shelf of texts.
func of(t *testing.T, texts ...string) *Shelf {
	t.Helper()
	s := New()
	for _, x := range texts {
		puts(t, s, x)
	}
	return s
}

// puts puts a text that may be put.
func puts(t *testing.T, s *Shelf, text string) {
	t.Helper()
	if name, e := s.Put(text); name != sha.Sum(text) || e != api.OK {
		t.Errorf("%.20q: %x, %v", text, name, e)
	}
}

// has tells whether a shelf has just these texts, in this order.
func has(t *testing.T, s *Shelf, texts ...string) {
	t.Helper()
	if got := s.Texts(0); !slices.Equal(got, texts) || s.Len() != len(texts) {
		t.Errorf("%d texts, %q; want %q", s.Len(), got, texts)
	}
	var names []string
	for _, x := range texts {
		names = append(names, sha.Sum(x))
		if got, ok := s.Get(sha.Sum(x)); got != x || !ok || !s.Has(sha.Sum(x)) {
			t.Errorf("%.20q: %.20q, %v", x, got, ok)
		}
	}
	slices.Sort(names)
	if got := s.Names(); !slices.Equal(got, names) {
		t.Errorf("names %x, want %x", got, names)
	}
}

// hasNot tells whether a shelf has none of these texts.
func hasNot(t *testing.T, s *Shelf, texts ...string) {
	t.Helper()
	for _, x := range texts {
		if got, ok := s.Get(sha.Sum(x)); got != "" || ok || s.Has(sha.Sum(x)) {
			t.Errorf("%.20q: %.20q, %v", x, got, ok)
		}
	}
}

// met tells whether a shelf met just these two unlike texts with one name (two empty ones: none).
func met(t *testing.T, s *Shelf, there, put string) {
	t.Helper()
	if a, b, ok := s.Clash(); a != there || b != put || ok != (there != "") {
		t.Errorf("%q %q %v, want %q %q", a, b, ok, there, put)
	}
}

// clashed is a shelf of a and b that met an unlike text with the name of a.
func clashed(t *testing.T) *Shelf {
	t.Helper()
	s := of(t, "a", "b")
	if name, e := s.put(object{sha.Sum("a"), "x"}); name != "" || e != api.ErrClash {
		t.Errorf("%x %v", name, e)
	}
	return s
}

func each(string) bool { return true }

func TestP16_1_New(t *testing.T) {
	s, other := New(), New()
	has(t, s)
	hasNot(t, s, "", "a")
	met(t, s, "", "")
	puts(t, s, "a")
	has(t, other)
	hasNot(t, other, "a")
}

func TestP16_1_Put(t *testing.T) {
	most := strings.Repeat("m", 1<<16)
	want := []string{"b", "a", "\x00", "c", most, "\xff\xfe", "aa"}
	s := New()
	for i, x := range want {
		puts(t, s, x)
		has(t, s, want[:i+1]...)
		hasNot(t, s, want[i+1:]...)
	}
	for _, x := range want { // once more: each is as it was
		puts(t, s, x)
	}
	has(t, s, want...)
	met(t, s, "", "")
}

func TestP16_1_PutOfWhatMayNotBe(t *testing.T) {
	s := of(t, "a")
	for text, want := range map[string]api.Errno{"": api.ErrArg, strings.Repeat("x", 1<<16+1): api.ErrLimit, strings.Repeat("x", 1<<17): api.ErrLimit} {
		if name, e := s.Put(text); name != "" || e != want {
			t.Error(len(text), name, e)
		}
		hasNot(t, s, text)
	}
	has(t, s, "a")
	met(t, s, "", "")
}

func TestP16_1_Get(t *testing.T) {
	s := of(t, "a")
	a := sha.Sum("a")
	for _, name := range []string{"", "a", a[:31], a + "a", strings.ToUpper(sha.Hex(a)), sha.Hex(a), strings.Repeat("\x00", 32)} {
		if got, ok := s.Get(name); got != "" || ok || s.Has(name) {
			t.Errorf("%q: %q %v", name, got, ok)
		}
	}
}

func TestP16_1_PutOfAnUnlikeTextWithOneName(t *testing.T) {
	s := clashed(t)
	has(t, s, "a", "b")
	met(t, s, "a", "x")
	if name, e := s.put(object{sha.Sum("b"), "b"}); name != sha.Sum("b") || e != api.OK {
		t.Errorf("%x %v", name, e)
	}
	has(t, s, "a", "b")
	puts(t, s, "x") // it is there by its own name
	has(t, s, "a", "b", "x")
}

func TestP16_1_NoShelf(t *testing.T) {
	for _, s := range []*Shelf{nil, {}} {
		if name, e := s.Put("a"); name != "" || e != api.ErrNil {
			t.Error(name, e)
		}
		if _, e := s.Put(""); e != api.ErrNil {
			t.Error(e)
		}
		hasNot(t, s, "", "a")
		if s.Len() != 0 || s.Texts(0) != nil || s.Texts(-1) != nil || s.Names() != nil {
			t.Error(s.Len(), s.Texts(0), s.Names())
		}
		for _, n := range []int{0, -1, 1} {
			if e := s.Cut(n); e != api.ErrNil {
				t.Error(n, e)
			}
		}
		met(t, s, "", "")
		if s.Only(each) != nil || s.Only(nil) != nil || s.Copy() != nil {
			t.Error("a shelf of none")
		}
	}
}

func TestP16_2_Texts(t *testing.T) {
	want := []string{"c", "a", "b"}
	s := of(t, want...)
	for n := range 4 {
		if got := s.Texts(n); !slices.Equal(got, want[n:]) {
			t.Error(n, got)
		}
	}
	for _, n := range []int{-1, 4, 5, math.MinInt, math.MaxInt} {
		if got := s.Texts(n); got != nil {
			t.Error(n, got)
		}
	}
}

func TestP16_2_Names(t *testing.T) {
	var texts []string
	for i := range 300 {
		texts = append(texts, strconv.Itoa(i))
	}
	s := of(t, texts...)
	l := s.Names()
	if len(l) != 300 {
		t.Error(len(l))
	}
	for i := range l {
		if i > 0 && l[i-1] >= l[i] {
			t.Error(i)
		}
	}
	has(t, s, texts...)
}

func TestP16_2_Cut(t *testing.T) {
	want := []string{"c", "a", "b", "d"}
	s := of(t, want...)
	for _, n := range []int{4, 3, 1, 1, 0, 0} {
		if e := s.Cut(n); e != api.OK {
			t.Error(n, e)
		}
		for _, no := range []int{n + 1, -1, math.MinInt, math.MaxInt} {
			if e := s.Cut(no); e != api.ErrArg {
				t.Error(n, no, e)
			}
		}
		has(t, s, want[:n]...)
		hasNot(t, s, want[n:]...)
	}
}

func TestP16_2_PutBehindACut(t *testing.T) {
	s := of(t, "c", "a", "b", "d")
	was := s.Texts(0)
	s.Cut(1)
	puts(t, s, "d")
	puts(t, s, "a")
	puts(t, s, "c")
	has(t, s, "c", "d", "a")
	hasNot(t, s, "b")
	if !slices.Equal(was, []string{"c", "a", "b", "d"}) {
		t.Error(was)
	}
}

func TestP16_2_Clash(t *testing.T) {
	s := clashed(t)
	s.put(object{sha.Sum("b"), "y"}) // just the first two are kept
	s.put(object{sha.Sum("a"), "z"})
	met(t, s, "a", "x")
	for _, n := range []int{1, 0} { // which changes nothing of that
		s.Cut(n)
		met(t, s, "a", "x")
	}
	puts(t, s, "x")
	met(t, s, "a", "x")
	s.put(object{sha.Sum("x"), "y"})
	met(t, s, "a", "x")
}

func TestP16_2_Only(t *testing.T) {
	s := of(t, "c", "a", "b", "d")
	var asked []string
	o := s.Only(func(name string) bool {
		asked = append(asked, name)
		return name == sha.Sum("d") || name == sha.Sum("a")
	})
	if has(t, o, "a", "d"); !slices.Equal(asked, []string{sha.Sum("c"), sha.Sum("a"), sha.Sum("b"), sha.Sum("d")}) {
		t.Errorf("%x", asked)
	}
	hasNot(t, o, "c", "b")
	has(t, s.Only(each), "c", "a", "b", "d")
	has(t, s.Only(func(string) bool { return false }))
	has(t, New().Only(each))
	has(t, s, "c", "a", "b", "d")
	met(t, clashed(t).Only(each), "", "")
	puts(t, o, "c") // which is apart
	o.Cut(1)
	puts(t, o, "e")
	has(t, o, "a", "e")
	has(t, s, "c", "a", "b", "d")
}

func TestP16_2_OnlyOfATestThatPanics(t *testing.T) {
	s := of(t, "a", "b")
	has(t, s.Only(nil))
	has(t, s.Only(func(name string) bool {
		if name == sha.Sum("a") {
			panic("a")
		}
		return true
	}), "b")
	has(t, s, "a", "b")
}

func TestP16_2_OnlyOfATestThatChangesTheShelf(t *testing.T) {
	s := of(t, "c", "a", "b", "d")
	o := s.Only(func(name string) bool {
		s.Cut(1)
		puts(t, s, "e"+name[:1])
		return true
	})
	has(t, o, "c", "a", "b", "d")
	has(t, s, "c", "e"+sha.Sum("d")[:1])
}

func TestP16_2_Copy(t *testing.T) {
	s := clashed(t)
	c := s.Copy()
	has(t, c, "a", "b")
	met(t, c, "a", "x")
	puts(t, c, "c")
	puts(t, s, "d")
	has(t, c, "a", "b", "c")
	has(t, s, "a", "b", "d")
	hasNot(t, s, "c")
	c.Cut(1)
	puts(t, c, "e")
	has(t, c, "a", "e")
	has(t, s, "a", "b", "d")
	s.Cut(0)
	has(t, c, "a", "e")
	other := of(t, "a").Copy()
	other.put(object{sha.Sum("a"), "x"})
	met(t, other, "a", "x")
	empty := New()
	copied := empty.Copy()
	puts(t, copied, "a")
	copied.put(object{sha.Sum("a"), "x"})
	has(t, empty)
	met(t, empty, "", "")
}

func TestP16_3_WhatWasPutIsGot(t *testing.T) {
	s := New()
	var texts []string
	for i := range 2000 {
		x := strconv.Itoa(i * i % 1499)
		if !slices.Contains(texts, x) {
			texts = append(texts, x)
		}
		puts(t, s, x)
		if i%500 == 499 {
			n := len(texts) / 2
			texts = texts[:n]
			s.Cut(n)
		}
	}
	has(t, s, texts...)
	has(t, s.Copy(), texts...)
	has(t, s.Only(each), texts...)
}

func TestP16_3_ListsAreApart(t *testing.T) {
	s := of(t, "a", "b", "c")
	for _, l := range [][]string{s.Texts(0), s.Texts(1), s.Names()} {
		l = l[:cap(l)]
		for i := range l {
			l[i] = "changed"
		}
	}
	has(t, s, "a", "b", "c")
}

func TestP16_3_OneNameHasOneText(t *testing.T) {
	sum := func(text string) string { return text[:1] } // by which many have one name
	s := New()
	first := map[string]int{}
	var texts []string
	for i := range 100 {
		x := strconv.Itoa(i)
		texts = append(texts, x)
		name, e := s.put(object{sum(x), x})
		at, ok := first[sum(x)]
		switch {
		case !ok:
			first[sum(x)] = i
			if name != sum(x) || e != api.OK {
				t.Error(x, name, e)
			}
		case name != "" || e != api.ErrClash:
			t.Error(x, texts[at], name, e)
		}
		if got, ok := s.Get(sum(x)); got != texts[first[sum(x)]] || !ok {
			t.Error(x, got, ok)
		}
	}
	met(t, s, "1", "10")
}
