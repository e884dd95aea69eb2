package mark

import (
	"maps"
	"slices"
	"strings"
	"testing"

	"pleach/api"
	"pleach/chunk"
	"pleach/commit"
	"pleach/graph"
	"pleach/hand"
	"pleach/quad"
	"pleach/sample"
	"pleach/sha"
	"pleach/shelf"
	"pleach/tree"
)

func sum(s string) string { return strings.Repeat(s, api.Hash) }

// twig is one of a key and a name.
func twig(key, name string) api.Twig { return api.Twig{Key: key, Name: name, Count: 1} }

// text is a chunk's text.
func text(t *testing.T, c api.Chunk) string {
	t.Helper()
	s, e := chunk.Put(c)
	if e != api.OK {
		t.Fatal(c, e)
	}
	return s
}

// many is a graph of so many nodes with edges between them.
func many(t *testing.T, n int) api.Graph {
	t.Helper()
	var g api.Graph
	for i := range n {
		id := string(rune('a'+i/26)) + string(rune('a'+i%26))
		g.Nodes = append(g.Nodes, api.Node{Id: id})
		g.Edges = append(g.Edges, api.Edge{Id: id, From: id, To: "aa"})
	}
	if e := graph.Check(g); e != api.OK {
		t.Fatal(e)
	}
	return g
}

// past is a shelf with four commits of three graphs: the second and the third of the first, the fourth of both; and their names.
func past(t *testing.T) (*shelf.Shelf, []string) {
	t.Helper()
	s := shelf.New()
	var names []string
	for i, n := range []int{3, 40, 41, 40} {
		g, e := quad.Write(s, many(t, n))
		if e != api.OK {
			t.Fatal(e)
		}
		c := api.Commit{Num: i + 1, Graph: g}
		for _, at := range [][]int{nil, {0}, {0}, {2, 1}}[i] {
			c.Parents = append(c.Parents, names[at])
		}
		name, e := commit.Store(s, c)
		if e != api.OK {
			t.Fatal(e)
		}
		names = append(names, name)
	}
	return s, names
}

func TestP39_1_Names(t *testing.T) {
	a, b, c, d := sum("a"), sum("b"), sum("c"), sum("d")
	put := func(c api.Commit) string {
		s, e := commit.Put(c)
		if e != api.OK {
			t.Fatal(e)
		}
		return s
	}
	for _, x := range []struct {
		text string
		want []string
	}{
		{text(t, api.Chunk{}), nil},
		{text(t, api.Chunk{Entries: []api.Entry{{Key: "k", Value: a}, {Key: "l", Value: b}}}), nil}, // of a leaf the values are none
		{text(t, chunk.Over(1, twig("k", b))), []string{b}},
		{text(t, chunk.Over(1, twig("k", b), twig("l", a), twig("m", b))), []string{b, a, b}}, // in order, each time
		{text(t, chunk.Over(40, twig("k", d), twig("l", c), twig("m", b), twig("n", a), twig("o", d), twig("p", c), twig("q", b), twig("r", a))), []string{d, c, b, a, d, c, b, a}},
		{"G" + d + b + c + a, []string{d, b, c, a}},
		{"G" + a + a + a + a, []string{a, a, a, a}},
		{put(api.Commit{Num: 1, Graph: d, Note: "n"}), []string{d}},
		{put(api.Commit{Num: 9, Parents: []string{b}, Graph: a}), []string{b, a}},
		{put(api.Commit{Num: 9, Parents: []string{c, a}, Graph: b}), []string{c, a, b}},
		{put(api.Commit{Num: 9, Parents: []string{c}, Graph: c}), []string{c, c}},
	} {
		if got, e := Names(x.text); !slices.Equal(got, x.want) || e != api.OK {
			t.Errorf("%.9q: %q %v", x.text, got, e)
		}
	}
}

func TestP39_1_NamesOfNone(t *testing.T) {
	a := sum("a")
	over := text(t, chunk.Over(1, twig("k", a)))
	c, _ := commit.Put(api.Commit{Num: 1, Parents: []string{a}, Graph: a})
	for _, s := range []string{
		"", "L", "I", "G", "C", "X", "Lx", "L\x01", "L\x00\x00", over + "\x00", over[:len(over)-1], "l" + over[1:], "L" + over[1:], "I\x00\x00", "I\x00" + text(t, api.Chunk{})[1:], "I\x01\x00",
		"G" + a + a + a, "G" + a + a + a + a + "\x00", "G" + a + a + a + a[1:], "g" + a + a + a + a, "R" + a, c + "\x00", c[:len(c)-1], "c" + c[1:], "G" + c[1:], "pleach", strings.Repeat("\x00", 128), strings.Repeat("C", 1<<16),
	} {
		if got, e := Names(s); got != nil || e != api.ErrForm {
			t.Errorf("%.40q: %q %v", s, got, e)
		}
	}
}

// needs is all that some names need, themselves included, by the words alone.
func needs(t *testing.T, s *shelf.Shelf, names ...string) []string {
	t.Helper()
	met := map[string]bool{}
	var meet func(name string)
	meet = func(name string) {
		if met[name] {
			return
		}
		met[name] = true
		x, _ := s.Get(name)
		l, e := Names(x)
		if e != api.OK {
			t.Fatalf("%x: %v", name, e)
		}
		for _, name := range l {
			meet(name)
		}
	}
	for _, name := range names {
		meet(name)
	}
	return slices.Sorted(maps.Keys(met))
}

func TestP39_2_Reach(t *testing.T) {
	s, names := past(t)
	stray, _ := commit.Store(s, api.Commit{Num: 99, Graph: sum("g")}) // whose graph is not there
	all := s.Names()
	if got, e := Reach(s, names[3]); len(got) != s.Len()-1 || e != api.OK {
		t.Error(len(got), e)
	}
	for _, l := range [][]string{nil, {names[0]}, {names[1]}, {names[2]}, {names[3]}, names, {names[2], names[2], names[0]}} {
		got, e := Reach(s, l...)
		if !slices.Equal(got, needs(t, s, l...)) || e != api.OK {
			t.Error(len(got), e)
		}
		if slices.Contains(got, stray) || len(l) == 1 && l[0] == names[0] && len(got) > 20 {
			t.Error(len(got))
		}
	}
	for _, name := range all {
		if name == stray {
			continue
		}
		if got, e := Reach(s, name); !slices.Equal(got, needs(t, s, name)) || !slices.Contains(got, name) || e != api.OK {
			t.Error(len(got), e)
		}
	}
	if got, e := Reach(s, names[0], stray); got != nil || e != api.ErrRot {
		t.Error(len(got), e)
	}
	if !slices.Equal(s.Names(), all) {
		t.Error("the shelf is another one")
	}
}

// The graph of nothing has one chunk; it is told once.
func TestP39_2_ReachTellsEachOnce(t *testing.T) {
	s := shelf.New()
	g, _ := quad.Write(s, api.Graph{})
	leaf, _ := tree.Build(s)
	want := []string{g, leaf}
	slices.Sort(want)
	if got, e := Reach(s, g, leaf, g); !slices.Equal(got, want) || e != api.OK {
		t.Error(got, e)
	}
	if got, e := Reach(s, leaf); !slices.Equal(got, []string{leaf}) || e != api.OK {
		t.Error(got, e)
	}
}

func TestP39_2_WhereAnObjectIsNotThere(t *testing.T) {
	s, names := past(t)
	for _, l := range [][]string{{names[0]}, {names[1]}, {names[3]}, {names[0], names[2]}} {
		want, _ := Reach(s, l...)
		for _, gone := range s.Names() {
			less := hand.Without(s, gone)
			got, e := Reach(less, l...)
			k, f := Kept(less, l...)
			if slices.Contains(want, gone) {
				if got != nil || k != nil || e != api.ErrRot || f != api.ErrRot {
					t.Error(len(got), e, f)
				}
			} else if !slices.Equal(got, want) || !slices.Equal(k.Names(), want) || e != api.OK || f != api.OK {
				t.Error(len(got), e, f)
			}
		}
	}
	for _, none := range []string{"", "x", sum("x"), names[0][:31]} {
		for _, s := range append(hand.NoShelves(), s) {
			if got, e := Reach(s, names[0], none); got != nil || e != api.ErrRot {
				t.Error(len(got), e)
			}
			if k, e := Kept(s, none, names[0]); k != nil || e != api.ErrRot {
				t.Error(k, e)
			}
		}
	}
}

// A name of a text that is no object's, at any place that something leads to.
func TestP39_2_WhereNamesHasAnError(t *testing.T) {
	for _, none := range []string{"X", "Lx", "C", "G", "I\x01"} {
		s := shelf.New()
		bad, _ := s.Put(none)
		good, _ := tree.Build(s)
		root, _ := tree.Put(s, chunk.Over(1, twig("k", good), twig("l", bad)))
		of, _ := quad.Put(s, api.Roots{Nodes: good, Edges: good, Out: good, In: root.Name})
		ofBad, _ := quad.Put(s, api.Roots{Nodes: bad, Edges: good, Out: good, In: good})
		fine, _ := quad.Put(s, api.Roots{Nodes: good, Edges: good, Out: good, In: good})
		one, _ := commit.Store(s, api.Commit{Num: 1, Graph: of})
		two, _ := commit.Store(s, api.Commit{Num: 2, Parents: []string{one}, Graph: fine})
		three, _ := commit.Store(s, api.Commit{Num: 2, Parents: []string{bad}, Graph: fine})
		for _, name := range []string{bad, root.Name, of, ofBad, one, two, three} {
			for _, l := range [][]string{{name}, {fine, name}, {name, fine}} {
				if got, e := Reach(s, l...); got != nil || e != api.ErrRot {
					t.Errorf("%q: %d %v", none, len(got), e)
				}
				if k, e := Kept(s, l...); k != nil || e != api.ErrRot {
					t.Errorf("%q: %v", none, e)
				}
			}
		}
		if got, e := Reach(s, fine, good); len(got) != 2 || e != api.OK { // nothing leads to it
			t.Error(len(got), e)
		}
	}
}

func TestP39_2_Kept(t *testing.T) {
	s, names := past(t)
	s.Put("Lx")
	for _, l := range [][]string{nil, {names[0]}, {names[1]}, {names[2], names[0]}, names} {
		want, _ := Reach(s, l...)
		k, e := Kept(s, l...)
		if e != api.OK || !slices.Equal(k.Names(), want) {
			t.Fatal(len(want), e)
		}
		var texts []string // in the shelf's order
		for _, x := range s.Texts(0) {
			if slices.Contains(want, sha.Sum(x)) {
				texts = append(texts, x)
			}
		}
		if !slices.Equal(k.Texts(0), texts) {
			t.Error(k.Len(), len(texts))
		}
		was := s.Len()
		k.Put("another one") // it is apart
		k.Cut(0)
		if s.Len() != was || s.Has(sha.Sum("another one")) {
			t.Error(s.Len())
		}
	}
	for _, s := range hand.NoShelves() {
		if k, e := Kept(s); k == nil || k.Len() != 0 || e != api.OK {
			t.Error(k, e)
		}
		if got, e := Reach(s); got != nil || e != api.OK {
			t.Error(got, e)
		}
	}
}

func TestP39_2_Commits(t *testing.T) {
	s, _ := past(t)
	if n := Commits(s); n != 4 {
		t.Error(n)
	}
	for _, x := range []string{"C", "Cx", "c", "LC", "GC", "\x00C"} {
		s.Put(x)
	}
	if n := Commits(s); n != 6 { // whatever stands behind the letter
		t.Error(n)
	}
	first := shelf.New()
	first.Put("C")
	if n := Commits(first); n != 1 {
		t.Error(n)
	}
	for _, s := range append(hand.NoShelves(), shelf.New()) {
		if n := Commits(s); n != 0 {
			t.Error(n)
		}
	}
}

func TestP39_3_WhatIsKeptNeedsNothingThatIsNot(t *testing.T) {
	s, names := past(t)
	var d sample.Dice
	for range 60 {
		var l []string
		for range 1 + d.Below(3) {
			l = append(l, s.Names()[d.Below(s.Len())])
		}
		k, e := Kept(s, l...)
		if e != api.OK {
			t.Fatal(e)
		}
		for _, x := range k.Texts(0) {
			needs, e := Names(x)
			if e != api.OK || slices.ContainsFunc(needs, func(name string) bool { return !k.Has(name) }) {
				t.Error(len(needs), e)
			}
		}
		if got, e := Reach(k, l...); !slices.Equal(got, k.Names()) || e != api.OK {
			t.Error(len(got), e)
		}
	}
	k, _ := Kept(s, names[1])
	want, _ := quad.Read(s, mustGraph(t, s, names[1]))
	if g, e := quad.Read(k, mustGraph(t, k, names[1])); !graph.Same(g, want) || e != api.OK {
		t.Error(e)
	}
	if l, _, e := commit.Back(k, names[1]); !slices.Equal(l, []string{names[1], names[0]}) || e != api.OK {
		t.Error(len(l), e)
	}
}

func mustGraph(t *testing.T, s *shelf.Shelf, name string) string {
	t.Helper()
	c, e := commit.Load(s, name)
	if e != api.OK {
		t.Fatal(e)
	}
	return c.Graph
}

// A few chunks that stand in very many places; and a past that is long.
func TestP39_2_ReachEnds(t *testing.T) {
	s := shelf.New()
	root := hand.Thicket(s, "k", "v")
	if got, e := Reach(s, root); len(got) > s.Len() || len(got) < 100 || e != api.OK {
		t.Error(len(got), e)
	}
	g, _ := quad.Put(s, api.Roots{Nodes: root, Edges: root, Out: root, In: root})
	c := api.Commit{Num: 1, Graph: g}
	for i := range 20000 {
		name, e := commit.Store(s, c)
		if e != api.OK {
			t.Fatal(e)
		}
		c = api.Commit{Num: i + 2, Parents: []string{name}, Graph: g}
	}
	if got, e := Reach(s, c.Parents[0]); len(got) < 20000 || e != api.OK {
		t.Error(len(got), e)
	}
	if n := Commits(s); n != 20000 {
		t.Error(n)
	}
}

func TestP39_2_Memory(t *testing.T) {
	s, names := past(t)
	l := sample.Room(names, "other")
	was := sample.All(l)
	texts := s.Texts(0)
	got, _ := Reach(s, l...)
	sample.Spoil(got)
	Kept(s, l...)
	for _, x := range texts {
		needs, _ := Names(x)
		sample.Spoil(needs)
	}
	if !slices.Equal(sample.All(l), was) || !slices.Equal(s.Texts(0), texts) {
		t.Error("something was changed")
	}
	if again, e := Reach(s, l...); !slices.Equal(again, needs(t, s, names...)) || e != api.OK {
		t.Error(len(again), e)
	}
}
