package commit

import (
	"math"
	"reflect"
	"slices"
	"strings"
	"testing"

	"pleach/api"
	"pleach/hand"
	"pleach/quad"
	"pleach/sample"
	"pleach/sha"
	"pleach/shelf"
	"pleach/tree"
)

// sum is some sum.
func sum(s string) string { return strings.Repeat(s, api.Hash) }

// plain is a commit that may be, and nothing special.
func plain() api.Commit {
	return api.Commit{Num: 300, Parents: []string{sum("p"), sum("q")}, Graph: sum("g"), Note: "a note"}
}

// with is a plain commit with a change.
func with(change func(c *api.Commit)) api.Commit {
	c := plain()
	change(&c)
	return c
}

// right are commits that may be, the edges among them.
func right() []api.Commit {
	l := []api.Commit{plain(), {Num: 1, Graph: sum("g")}, {Num: 1, Parents: []string{}, Graph: sum("\x00")}}
	for _, n := range []int{1, 2, 127, 128, 1 << 31, api.MaxNum - 1, api.MaxNum} {
		l = append(l, with(func(c *api.Commit) { c.Num = n }))
	}
	for _, parents := range [][]string{nil, {}, {sum("p")}, {sum("g")}, {sum("\x00"), sum("\xff")}, {sum("q"), sum("p")}, {sum("p"), sum("p")[:31] + "q"}} {
		l = append(l, with(func(c *api.Commit) { c.Parents = parents }))
	}
	for _, note := range []string{"", "\x00", "C", strings.Repeat("n", 39), strings.Repeat("\xff", 40)} {
		l = append(l, with(func(c *api.Commit) { c.Note = note }))
	}
	return l
}

// wrong are commits that may not be.
func wrong() []api.Commit {
	l := []api.Commit{{}}
	for _, n := range []int{0, -1, api.MaxNum + 1, math.MinInt, math.MaxInt} {
		l = append(l, with(func(c *api.Commit) { c.Num = n }))
	}
	p, q := sum("p"), sum("q")
	for _, parents := range [][]string{{p, p}, {""}, {p, ""}, {"", q}, {p[:31]}, {p + "p"}, {p, q[:31]}, {p[:31], q}, {p, q, sum("r")}, {p, q, ""}, {p, q, p}, {"", ""}, slices.Repeat([]string{p}, 99)} {
		l = append(l, with(func(c *api.Commit) { c.Parents = parents }))
	}
	for _, graph := range []string{"", "g", sum("g")[:31], sum("g") + "g", strings.Repeat("g", 999)} {
		l = append(l, with(func(c *api.Commit) { c.Graph = graph }))
	}
	for _, note := range []string{strings.Repeat("n", 41), strings.Repeat("n", 1<<17)} {
		l = append(l, with(func(c *api.Commit) { c.Note = note }))
	}
	return l
}

// same tells whether two commits are the same; nil and empty Parents are.
func same(a, b api.Commit) bool {
	return a.Num == b.Num && slices.Equal(a.Parents, b.Parents) && a.Graph == b.Graph && a.Note == b.Note
}

func isEmpty(c api.Commit) bool { return reflect.DeepEqual(c, api.Commit{}) }

func TestP35_1_Check(t *testing.T) {
	for _, c := range right() {
		if e := Check(c); e != api.OK {
			t.Error(c, e)
		}
	}
	for _, c := range wrong() {
		if e := Check(c); e != api.ErrArg {
			t.Error(c, e)
		}
	}
}

func TestP35_1_Put(t *testing.T) {
	for _, c := range []struct {
		c    api.Commit
		want string
	}{
		{plain(), "C\xac\x02\x02" + sum("p") + sum("q") + sum("g") + "\x06a note"},
		{api.Commit{Num: 1, Graph: sum("g")}, "C\x01\x00" + sum("g") + "\x00"},
		{api.Commit{Num: api.MaxNum, Parents: []string{sum("q")}, Graph: sum("\x00"), Note: "n"}, "C\xff\xff\xff\xff\x0f\x01" + sum("q") + sum("\x00") + "\x01n"},
	} {
		if s, e := Put(c.c); s != c.want || e != api.OK {
			t.Errorf("%q %v, want %q", s, e, c.want)
		}
	}
	for _, c := range wrong() {
		if s, e := Put(c); s != "" || e != api.ErrArg {
			t.Errorf("%v: %q %v", c, s, e)
		}
	}
}

func TestP35_1_TakeOfNone(t *testing.T) {
	p, q, g := sum("p"), sum("q"), sum("g")
	good, _ := Put(plain())
	for what, s := range map[string]string{
		"nothing":               "",
		"the letter alone":      "C",
		"another letter":        "D" + good[1:],
		"a small letter":        "c" + good[1:],
		"no letter":             good[1:],
		"a byte more":           good + "\x00",
		"two of them":           good + good,
		"number 0":              "C\x00\x00" + g + "\x00",
		"number 2^32":           "C\x80\x80\x80\x80\x10\x00" + g + "\x00",
		"a long number":         "C\x81\x00\x00" + g + "\x00",
		"no end of the number":  "C\x81",
		"three parents":         "C\x01\x03" + p + q + sum("r") + g + "\x00",
		"three hold as two":     "C\x01\x02" + p + q + sum("r") + g + "\x00",
		"a parent less":         "C\x01\x02" + p + g + "\x00",
		"a parent more":         "C\x01\x00" + p + g + "\x00",
		"one parent twice":      "C\x01\x02" + p + p + g + "\x00",
		"a long count":          "C\x01\x81\x00" + p + g + "\x00",
		"parents with lengths":  "C\x01\x01\x20" + p + g + "\x00",
		"a graph with a length": "C\x01\x00\x20" + g + "\x00",
		"no graph":              "C\x01\x00\x00",
		"no note":               "C\x01\x00" + g,
		"a short note":          "C\x01\x00" + g + "\x02n",
		"a long note":           "C\x01\x00" + g + "\x29" + strings.Repeat("n", 41),
		"a note's long length":  "C\x01\x00" + g + "\x81\x00n",
		"a chunk's":             "L\x00",
		"a stored graph's":      "G" + strings.Repeat(g, 4),
	} {
		if c, e := Take(s); !isEmpty(c) || e != api.ErrForm {
			t.Errorf("%s: %v %v", what, c, e)
		}
	}
	for n := range good {
		if c, e := Take(good[:n]); !isEmpty(c) || e != api.ErrForm {
			t.Errorf("its first %d bytes: %v %v", n, c, e)
		}
	}
}

func TestP35_1_Is(t *testing.T) {
	good, _ := Put(plain())
	for s, want := range map[string]bool{good: true, "C": true, "C\x00": true, "CC": true, "": false, "c": false, "L\x00": false, "GC": false, " C": false, "\x00C": false} {
		if Is(s) != want {
			t.Errorf("%.20q", s)
		}
	}
}

func TestP35_2_Store(t *testing.T) {
	s := shelf.New()
	for i, c := range right() {
		text, _ := Put(c)
		was, met := s.Len(), s.Has(sha.Sum(text)) // some are the same ones
		if name, e := Store(s, c); name != sha.Sum(text) || e != api.OK {
			t.Error(i, name, e)
		}
		if is, _ := s.Get(sha.Sum(text)); is != text || met != (s.Len() == was) {
			t.Errorf("%d: %q", i, is)
		}
	}
	was := s.Texts(0)
	for _, c := range wrong() {
		if name, e := Store(s, c); name != "" || e != api.ErrArg {
			t.Error(c, name, e)
		}
	}
	if !slices.Equal(s.Texts(0), was) {
		t.Error("something was put")
	}
	for _, s := range hand.NoShelves() {
		if name, e := Store(s, plain()); name != "" || e != api.ErrNil {
			t.Error(name, e)
		}
		if name, e := Store(s, api.Commit{}); name != "" || e != api.ErrArg { // Put's error is ahead
			t.Error(name, e)
		}
	}
}

func TestP35_2_Load(t *testing.T) {
	s := shelf.New()
	for _, want := range right() {
		name, _ := Store(s, want)
		if c, e := Load(s, name); !same(c, want) || e != api.OK {
			t.Error(want, c, e)
		}
	}
	name, _ := Store(s, plain())
	leaf, _ := tree.Build(s)
	graph, _ := quad.Write(s, api.Graph{})
	begun, _ := s.Put("C")
	longer, _ := s.Put("C\x01\x00" + sum("g") + "\x00\x00")
	for _, none := range []string{"", "x", sum("x"), leaf, graph, begun, longer, name[:31], name + "\x00", sha.Hex(name)} {
		if c, e := Load(s, none); !isEmpty(c) || e != api.ErrUnknown {
			t.Errorf("%q: %v %v", none, c, e)
		}
	}
	for _, s := range append(hand.NoShelves(), shelf.New()) {
		if c, e := Load(s, name); !isEmpty(c) || e != api.ErrUnknown {
			t.Error(c, e)
		}
	}
}

func TestP35_4_TakeLeadsBackFromPut(t *testing.T) {
	for _, want := range right() {
		s, _ := Put(want)
		if c, e := Take(s); !same(c, want) || e != api.OK {
			t.Error(want, c, e)
		}
	}
}

// Bytes that are others than a commit's are none's, or another one's, whose Put they are.
func TestP35_4_WhatIsTakenIsPutAsItWas(t *testing.T) {
	taken := 0
	for _, c := range right() {
		good, _ := Put(c)
		for i := range len(good) {
			for bit := range 8 {
				b := []byte(good)
				b[i] ^= 1 << bit
				c, e := Take(string(b))
				if e != api.OK {
					continue
				}
				taken++
				if s, e := Put(c); s != string(b) || e != api.OK {
					t.Fatalf("%q: %q %v", b, s, e)
				}
			}
		}
	}
	if taken == 0 {
		t.Error("none was taken")
	}
}

// Two texts that are taken share no memory with one another, and what is handed in stays as it was.
func TestP35_1_Memory(t *testing.T) {
	c := plain()
	c.Parents = sample.Room(c.Parents, "other")
	was := sample.All(c.Parents)
	Check(c)
	s, _ := Put(c)
	Store(shelf.New(), c)
	if !slices.Equal(sample.All(c.Parents), was) {
		t.Error(c.Parents)
	}
	one, _ := Take(s)
	two, _ := Take(s)
	sample.Spoil(one.Parents)
	if !same(two, plain()) {
		t.Error(two)
	}
}
