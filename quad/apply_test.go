package quad

import (
	"fmt"
	"math"
	"slices"
	"strings"
	"testing"

	"pleach/api"
	"pleach/chunk"
	"pleach/elem"
	"pleach/graph"
	"pleach/hand"
	"pleach/sample"
	"pleach/shelf"
	"pleach/tree"
)

func number(n int) api.Value { return api.Value{Kind: api.VInt, Num: n} }

// op is an op; more is an edge's two nodes, or a key. A value it has anyhow.
func op(kind int, id string, more ...string) api.Op {
	o := api.Op{Kind: kind, Id: id}
	switch len(more) {
	case 1:
		o.Key, o.Value = more[0], number(7)
	case 2:
		o.From, o.To = more[0], more[1]
	}
	return o
}

// holds holds Apply of a stored graph against graph's of what it is; it answers the graph and the name behind the ops, or those that were, if they may not be.
func holds(t *testing.T, s *shelf.Shelf, name string, g api.Graph, ops ...api.Op) (string, api.Graph) {
	t.Helper()
	want, wantAt, wantE := graph.Apply(g, ops...)
	got, at, e := Apply(s, name, ops...)
	if at != wantAt || e != wantE {
		t.Fatal(ops, at, e, wantAt, wantE)
	}
	if e != api.OK {
		if got != "" {
			t.Fatal(ops, got)
		}
		return name, g
	}
	if _, own := wrote(t, want); got != own {
		t.Fatal(ops, "another name")
	}
	if is, e := Read(s, got); !same(is, want) || e != api.OK {
		t.Fatal(ops, is, e)
	}
	return got, want
}

func TestP32_3_ApplyOneOp(t *testing.T) {
	var d sample.Dice
	for range 3000 {
		g := d.Graph()
		s, name := wrote(t, g)
		holds(t, s, name, g, d.Op())
	}
}

// ops is up to so many ops, all but a few of which the graph lets be.
func drawn(d *sample.Dice, g api.Graph, most int, draw func() api.Op) []api.Op {
	var ops []api.Op
	for range d.Below(most + 1) {
		o := draw()
		next, _, e := graph.Apply(g, o)
		if e == api.OK {
			g = next
		} else if d.Below(20) > 0 {
			continue
		}
		ops = append(ops, o)
	}
	return ops
}

func TestP32_3_ApplyManyOps(t *testing.T) {
	var d sample.Dice
	for range 100 {
		g := d.Graph()
		s, name := wrote(t, g)
		for range 10 {
			name, g = holds(t, s, name, g, drawn(&d, g, 30, d.Op)...)
		}
	}
}

// wide is an op of a graph that many makes.
func wide(d *sample.Dice, nodes, edges int) api.Op {
	o := d.Op()
	node := func() string { return fmt.Sprint("n", 1000+d.Below(nodes)) }
	switch {
	case o.Kind == api.OpEdge:
		o.Id, o.From, o.To = fmt.Sprint("e", 1000+d.Below(edges)), node(), node()
	case o.Kind == api.OpDropEdge || graph.OfEdge(o.Kind):
		o.Id = fmt.Sprint("e", 1000+d.Below(edges))
	default:
		o.Id = node()
	}
	return o
}

func TestP32_3_ApplyToGreatGraphs(t *testing.T) {
	var d sample.Dice
	for _, c := range []struct{ nodes, edges, times int }{{40, 90, 40}, {200, 100, 20}, {500, 1000, 4}} {
		g := many(c.nodes, c.edges)
		s, name := wrote(t, g)
		for range c.times {
			ops := drawn(&d, g, api.MaxOps, func() api.Op { return wide(&d, min(c.nodes+20, api.MaxNodes), c.edges+20) })
			name, g = holds(t, s, name, g, ops...)
		}
	}
}

func TestP32_3_NoOps(t *testing.T) {
	for _, g := range graphs() {
		s, name := wrote(t, g)
		was := s.Len()
		if got, at, e := Apply(s, name); got != name || at != 0 || e != api.OK || s.Len() != was {
			t.Fatal(g, at, e)
		}
	}
}

// sparse is a few nodes, and edges between them.
func sparse(t *testing.T) api.Graph {
	t.Helper()
	g, _, e := graph.Apply(api.Graph{},
		op(api.OpNode, "a"), op(api.OpNode, "b"), op(api.OpNode, "a-"), op(api.OpNode, "ab"), op(api.OpNode, "l"),
		op(api.OpEdge, "e", "a-", "b"), op(api.OpEdge, "f", "ab", "b"), op(api.OpEdge, "l", "l", "l"),
		op(api.OpLabel, "b", "x"), op(api.OpMark, "e", "x"), op(api.OpSet, "b", "k"), op(api.OpSetEdge, "e", "k"))
	if e != api.OK {
		t.Fatal(e)
	}
	return g
}

func TestP32_3_TheTable(t *testing.T) {
	for _, c := range []struct {
		e   api.Errno
		ops []api.Op
	}{
		{api.OK, []api.Op{op(api.OpNode, "c")}},
		{api.ErrTwice, []api.Op{op(api.OpNode, "a")}},
		{api.ErrTwice, []api.Op{op(api.OpNode, "c"), op(api.OpNode, "c")}},
		{api.OK, []api.Op{op(api.OpDropNode, "a")}}, // its neighbours' names begin with its own
		{api.ErrNone, []api.Op{op(api.OpDropNode, "c")}},
		{api.ErrNone, []api.Op{op(api.OpDropNode, "a"), op(api.OpDropNode, "a")}},
		{api.ErrBusy, []api.Op{op(api.OpDropNode, "a-")}}, // from it
		{api.ErrBusy, []api.Op{op(api.OpDropNode, "b")}},  // to it
		{api.ErrBusy, []api.Op{op(api.OpDropNode, "l")}},
		{api.OK, []api.Op{op(api.OpDropEdge, "l"), op(api.OpDropNode, "l")}},
		{api.ErrBusy, []api.Op{op(api.OpDropEdge, "e"), op(api.OpDropNode, "b")}},
		{api.OK, []api.Op{op(api.OpDropEdge, "e"), op(api.OpDropEdge, "f"), op(api.OpDropNode, "b")}},
		{api.ErrBusy, []api.Op{op(api.OpEdge, "g", "a", "b"), op(api.OpDropNode, "a")}},
		{api.ErrBusy, []api.Op{op(api.OpEdge, "g", "b", "a"), op(api.OpDropNode, "a")}},
		{api.OK, []api.Op{op(api.OpEdge, "g", "a", "a"), op(api.OpDropEdge, "g"), op(api.OpDropNode, "a")}},
		{api.ErrBusy, []api.Op{op(api.OpDropEdge, "l"), op(api.OpEdge, "l", "a", "l"), op(api.OpDropNode, "l")}},
		{api.OK, []api.Op{op(api.OpDropNode, "a"), op(api.OpNode, "a"), op(api.OpDropNode, "a"), op(api.OpNode, "a")}},
		{api.ErrTwice, []api.Op{op(api.OpEdge, "e", "a", "x")}},
		{api.ErrNone, []api.Op{op(api.OpEdge, "g", "a", "c")}},
		{api.ErrNone, []api.Op{op(api.OpEdge, "g", "c", "a")}},
		{api.ErrNone, []api.Op{op(api.OpDropNode, "a"), op(api.OpEdge, "g", "a", "b")}},
		{api.OK, []api.Op{op(api.OpNode, "c"), op(api.OpEdge, "g", "a", "c")}},
		{api.OK, []api.Op{op(api.OpDropEdge, "e"), op(api.OpEdge, "e", "b", "a-")}},
		{api.OK, []api.Op{op(api.OpDropEdge, "e"), op(api.OpEdge, "e", "a-", "b")}}, // its label and its property are gone
		{api.ErrNone, []api.Op{op(api.OpDropEdge, "g")}},
		{api.ErrNone, []api.Op{op(api.OpDropEdge, "e"), op(api.OpDropEdge, "e")}},
		{api.ErrNone, []api.Op{op(api.OpLabel, "c", "x")}},
		{api.ErrNone, []api.Op{op(api.OpLabel, "e", "x")}}, // an edge's Id
		{api.ErrTwice, []api.Op{op(api.OpLabel, "b", "x")}},
		{api.OK, []api.Op{op(api.OpLabel, "a", "x")}},
		{api.OK, []api.Op{op(api.OpUnlabel, "b", "x"), op(api.OpLabel, "b", "x")}},
		{api.ErrNone, []api.Op{op(api.OpUnlabel, "a", "x")}},
		{api.ErrNone, []api.Op{op(api.OpDropEdge, "e"), op(api.OpMark, "e", "y")}},
		{api.ErrTwice, []api.Op{op(api.OpMark, "e", "x")}},
		{api.OK, []api.Op{op(api.OpMark, "e", "y"), op(api.OpUnmark, "e", "x")}},
		{api.ErrNone, []api.Op{op(api.OpUnmark, "f", "x")}},
		{api.OK, []api.Op{op(api.OpSet, "b", "k"), op(api.OpSet, "b", "j")}},
		{api.ErrNone, []api.Op{op(api.OpUnset, "a", "k")}},
		{api.OK, []api.Op{op(api.OpUnset, "b", "k")}},
		{api.OK, []api.Op{op(api.OpSetEdge, "e", "k"), op(api.OpSetEdge, "f", "k")}},
		{api.ErrNone, []api.Op{op(api.OpUnsetEdge, "f", "k")}},
		{api.ErrNone, []api.Op{op(api.OpUnsetEdge, "b", "k")}}, // a node's Id
		{api.OK, []api.Op{op(api.OpUnsetEdge, "e", "k")}},
	} {
		for ahead := range 3 { // the place of the one that may not be is told
			var ops []api.Op
			for i := range ahead {
				ops = append(ops, op(api.OpNode, fmt.Sprint("m", i)))
			}
			ops = append(ops, c.ops...)
			g := sparse(t)
			s, name := wrote(t, g)
			holds(t, s, name, g, ops...)
			got, at, e := Apply(s, name, ops...)
			if e != c.e || e == api.OK && (got == "" || at != 0) || e != api.OK && (got != "" || at != len(ops)-1) {
				t.Error(ops, at, e)
			}
		}
	}
}

func TestP32_3_RightsError(t *testing.T) {
	g := sparse(t)
	s, name := wrote(t, g)
	for kind := api.OpNode; kind <= api.OpUnsetEdge; kind++ {
		for _, bad := range []string{"", "A", "abcdefghijklm", "a\x00e", "\x00"} {
			for _, o := range []api.Op{
				{Kind: kind, Id: bad, From: "a", To: "a", Key: "k", Value: number(1)},
				{Kind: kind, Id: "e", From: bad, To: "a", Key: "k", Value: number(1)},
				{Kind: kind, Id: "e", From: "a", To: bad, Key: "k", Value: number(1)},
				{Kind: kind, Id: "e", From: "a", To: "a", Key: bad, Value: number(1)},
				{Kind: kind, Id: "e", From: "a", To: "a", Key: "k", Value: api.Value{Text: bad}},
			} {
				holds(t, s, name, g, o)
				holds(t, s, name, g, op(api.OpNode, "z"), o)
			}
		}
	}
	for _, kind := range []int{0, -1, 13, 14, 257, math.MaxInt, math.MinInt} {
		o := api.Op{Kind: kind, Id: "a", From: "a", To: "a", Key: "k", Value: number(1)}
		if got, at, e := Apply(s, name, op(api.OpNode, "z"), o); got != "" || at != 1 || e != api.ErrArg {
			t.Error(kind, at, e)
		}
	}
}

func TestP32_3_Limits(t *testing.T) {
	g := many(500, 1000)
	a, lone := g.Nodes[0].Id, g.Nodes[499].Id
	for i := range g.Edges {
		g.Edges[i].From, g.Edges[i].To = a, g.Nodes[i%499].Id
	}
	s, name := wrote(t, g)
	for _, c := range []struct {
		e   api.Errno
		ops []api.Op
	}{
		{api.ErrLimit, []api.Op{op(api.OpNode, "z")}},
		{api.ErrTwice, []api.Op{op(api.OpNode, a)}},
		{api.OK, []api.Op{op(api.OpDropNode, lone), op(api.OpNode, "z")}},
		{api.ErrLimit, []api.Op{op(api.OpDropNode, lone), op(api.OpNode, "z"), op(api.OpNode, lone)}},
		{api.ErrLimit, []api.Op{op(api.OpDropNode, lone), op(api.OpNode, lone), op(api.OpNode, "z")}},
		{api.OK, []api.Op{op(api.OpDropNode, lone), op(api.OpNode, "y"), op(api.OpDropNode, "y"), op(api.OpNode, "z")}},
		{api.ErrLimit, []api.Op{op(api.OpEdge, "z", a, lone)}},
		{api.ErrTwice, []api.Op{op(api.OpEdge, "e1000", "no", "no")}},
		{api.ErrNone, []api.Op{op(api.OpEdge, "z", "no", a)}},
		{api.OK, []api.Op{op(api.OpDropEdge, "e1000"), op(api.OpEdge, "z", a, lone)}},
		{api.ErrLimit, []api.Op{op(api.OpDropEdge, "e1000"), op(api.OpEdge, "z", a, lone), op(api.OpEdge, "e1000", a, a)}},
	} {
		holds(t, s, name, g, c.ops...)
		if _, at, e := Apply(s, name, c.ops...); e != c.e || e != api.OK && at != len(c.ops)-1 {
			t.Error(c.ops, at, e)
		}
	}
	few := many(498, 3)
	s, name = wrote(t, few)
	holds(t, s, name, few, op(api.OpNode, "y"), op(api.OpLabel, "y", "x"), op(api.OpNode, "z")) // who comes counts once
	full := many(499, 999)
	s, name = wrote(t, full)
	name, full = holds(t, s, name, full, op(api.OpNode, "y"), op(api.OpEdge, "y", "y", "y"))
	if len(full.Nodes) != 500 || len(full.Edges) != 1000 {
		t.Fatal(len(full.Nodes), len(full.Edges))
	}
	holds(t, s, name, full, op(api.OpNode, "z"))
	holds(t, s, name, full, op(api.OpEdge, "z", "y", "y"))
	eight := api.Graph{Nodes: []api.Node{{Id: "a", Labels: strings.Split("b c d e f g h i", " ")}}}
	s, name = wrote(t, eight)
	holds(t, s, name, eight, op(api.OpLabel, "a", "z"))
	holds(t, s, name, eight, op(api.OpUnlabel, "a", "b"), op(api.OpLabel, "a", "z"))
}

// More than a batch of a repository may have.
func TestP32_3_VeryManyOps(t *testing.T) {
	var ops []api.Op
	for i := range 400 {
		id := fmt.Sprint("n", i)
		ops = append(ops, op(api.OpNode, id), op(api.OpEdge, id, id, "n0"), op(api.OpMark, id, "x"))
	}
	s, name := wrote(t, api.Graph{})
	name, g := holds(t, s, name, api.Graph{}, ops...)
	ops = nil
	for i := 399; i >= 0; i-- {
		id := fmt.Sprint("n", i)
		ops = append(ops, op(api.OpDropEdge, id), op(api.OpDropNode, id))
	}
	name, _ = holds(t, s, name, g, ops...)
	if _, nothing := wrote(t, api.Graph{}); name != nothing {
		t.Error("something is left")
	}
}

// mapsOf is which of the four maps an op needs.
func mapsOf(o api.Op) []int {
	switch o.Kind {
	case api.OpDropNode:
		return []int{0, 2, 3}
	case api.OpEdge:
		return []int{0, 1, 2, 3}
	case api.OpDropEdge:
		return []int{1, 2, 3}
	case api.OpMark, api.OpUnmark, api.OpSetEdge, api.OpUnsetEdge:
		return []int{1}
	}
	return []int{0}
}

// Of the maps that no op names nothing need be there.
func TestP32_3_ItLooksAtWhatTheOpsNameAlone(t *testing.T) {
	g := many(40, 30)
	s, name := wrote(t, g)
	r, _ := Load(s, name)
	var d sample.Dice
	done := map[int]int{}
	for range 600 {
		o := wide(&d, 50, 40)
		want, _, wantE := Apply(s.Copy(), name, o)
		var gone []string
		for i, root := range list(r) {
			if !slices.Contains(mapsOf(o), i) {
				gone = append(gone, hand.Chunks(s, root)...)
			}
		}
		if got, at, e := Apply(hand.Without(s, gone...), name, o); got != want || at != 0 || e != wantE {
			t.Fatal(o, at, e, wantE)
		}
		if wantE == api.OK {
			done[o.Kind]++
		}
	}
	for kind := api.OpNode; kind <= api.OpUnsetEdge; kind++ {
		if done[kind] == 0 {
			t.Error("never done:", kind)
		}
	}
	if got, at, e := Apply(s.Only(func(n string) bool { return n == name }), name); got != name || at != 0 || e != api.OK {
		t.Error(at, e)
	}
}

// What an op is refused for is told by the chunks that lead to what it names.
func TestP32_3_ARefusalNeedsTheWayAlone(t *testing.T) {
	g := many(60, 90)
	s, name := wrote(t, g)
	r, _ := Load(s, name)
	n, x := g.Nodes[30].Id, g.Edges[40]
	for _, c := range []struct {
		o    api.Op
		e    api.Errno
		ways []string
	}{
		{op(api.OpNode, n), api.ErrTwice, hand.Way(s, r.Nodes, n)},
		{op(api.OpDropNode, "no"), api.ErrNone, hand.Way(s, r.Nodes, "no")},
		{op(api.OpEdge, x.Id, "no", "no"), api.ErrTwice, hand.Way(s, r.Edges, x.Id)},
		{op(api.OpEdge, "no", n, "no"), api.ErrNone, slices.Concat(hand.Way(s, r.Edges, "no"), hand.Way(s, r.Nodes, n), hand.Way(s, r.Nodes, "no"))},
		{op(api.OpDropEdge, "no"), api.ErrNone, hand.Way(s, r.Edges, "no")},
		{op(api.OpUnlabel, n, "no"), api.ErrNone, hand.Way(s, r.Nodes, n)},
		{op(api.OpUnmark, x.Id, "no"), api.ErrNone, hand.Way(s, r.Edges, x.Id)},
	} {
		kept := s.Only(func(n string) bool { return n == name || slices.Contains(c.ways, n) })
		if got, at, e := Apply(kept, name, c.o); got != "" || at != 0 || e != c.e {
			t.Error(c.o, at, e)
		}
		for _, gone := range c.ways {
			if got, at, e := Apply(hand.Without(s, gone), name, op(api.OpNode, "y"), c.o); got != "" || at != 0 || e != api.ErrRot {
				t.Error(c.o, at, e)
			}
		}
	}
}

// An edge that comes needs of the map of nodes the ways to its own two alone.
func TestP32_3_WhatIsLookedAtIsNotChanged(t *testing.T) {
	g := many(60, 20)
	s, name := wrote(t, g)
	r, _ := Load(s, name)
	o := op(api.OpEdge, "z", g.Nodes[3].Id, g.Nodes[50].Id)
	var gone []string
	for _, n := range hand.Chunks(s, r.Nodes) {
		if !slices.Contains(hand.Way(s, r.Nodes, o.From), n) && !slices.Contains(hand.Way(s, r.Nodes, o.To), n) {
			gone = append(gone, n)
		}
	}
	want, _, _ := Apply(s.Copy(), name, o)
	if got, at, e := Apply(hand.Without(s, gone...), name, o); got != want || at != 0 || e != api.OK || len(gone) < 5 {
		t.Error(len(gone), at, e)
	}
}

func TestP32_3_WhereAnObjectIsNotThere(t *testing.T) {
	g := many(40, 30)
	s, name := wrote(t, g)
	var d sample.Dice
	rot := 0
	for range 10 {
		ops := drawn(&d, g, 6, func() api.Op { return wide(&d, 50, 40) })
		want, wantAt, wantE := Apply(s.Copy(), name, ops...)
		for _, gone := range s.Names() {
			got, at, e := Apply(hand.Without(s, gone), name, ops...)
			switch {
			case e == api.ErrRot:
				rot++
				if got != "" || at != 0 {
					t.Fatal(ops, got, at)
				}
			case gone == name || got != want || at != wantAt || e != wantE:
				t.Fatal(ops, at, e, wantAt, wantE)
			}
		}
	}
	if rot == 0 {
		t.Error("nothing was looked at")
	}
	notOne, _ := s.Put("G")
	for _, other := range []string{"", "x", notOne, name[:31], s.Names()[0]} {
		for _, s := range append(hand.NoShelves(), s) {
			for _, o := range []api.Op{op(api.OpNode, "a"), {}} {
				if got, at, e := Apply(s, other, o); got != "" || at != 0 || e != api.ErrRot {
					t.Errorf("%q: %q %v %v", other, got, at, e)
				}
			}
		}
	}
}

// Bytes that are no node's, no edge's.
func TestP32_3_NoNodesBytes(t *testing.T) {
	for _, bytes := range []string{"", "\x00", "x", "\x00\x00\x00"} {
		s := shelf.New()
		maps := [4][]api.Entry{{{Key: "a", Value: bytes}}, {{Key: "e", Value: bytes}}}
		name := hand.Store(s, maps, hand.Even)
		for _, o := range []api.Op{op(api.OpLabel, "a", "x"), op(api.OpSet, "a", "k"), op(api.OpMark, "e", "x"), op(api.OpUnsetEdge, "e", "k"), op(api.OpDropEdge, "e")} {
			if got, at, e := Apply(s, name, op(api.OpNode, "b"), o); got != "" || at != 0 || e != api.ErrRot {
				t.Error(o, at, e)
			}
		}
	}
}

// A node of no bytes goes as any other one.
func TestP32_3_ANodeOfNoBytes(t *testing.T) {
	s := shelf.New()
	name := hand.Store(s, [4][]api.Entry{{{Key: "a"}}}, hand.Even)
	got, at, e := Apply(s, name, op(api.OpDropNode, "a"))
	if _, nothing := wrote(t, api.Graph{}); got != nothing || at != 0 || e != api.OK {
		t.Error(at, e)
	}
}

// Stored graphs whose trees are cut otherwise: what comes of them is the same graph.
func TestP32_3_OddTrees(t *testing.T) {
	var d sample.Dice
	for _, g := range []api.Graph{many(1, 1), sparse(t), many(40, 30), many(60, 90)} {
		s := shelf.New()
		name := hand.Store(s, laid(t, g), hand.Odd)
		for range 20 {
			ops := drawn(&d, g, 8, func() api.Op { return wide(&d, 50, 40) })
			want, wantAt, wantE := graph.Apply(g, ops...)
			got, at, e := Apply(s, name, ops...)
			if at != wantAt || e != wantE {
				t.Fatal(ops, at, e, wantAt, wantE)
			}
			if is, _ := Read(s, got); !same(is, want) {
				t.Fatal(ops, is)
			}
		}
	}
}

// Maps that are no graph's: each call ends, and what it answers hangs on what is there.
func TestP32_3_MapsThatAreNoGraphs(t *testing.T) {
	g := many(6, 7)
	var d sample.Dice
	for _, maps := range spoilt(laid(t, g)) {
		s := shelf.New()
		name := hand.Store(s, maps, hand.Even)
		for range 3 {
			ops := drawn(&d, g, 6, func() api.Op { return wide(&d, 8, 9) })
			got, at, e := Apply(s.Copy(), name, ops...)
			again, at2, e2 := Apply(s.Copy(), name, ops...)
			if got != again || at != at2 || e != e2 || (got == "") == (e == api.OK) || e == api.ErrRot && at != 0 {
				t.Fatal(ops, at, e)
			}
		}
	}
}

// Trees by hand that have more than could be gone through, or whose keys do not rise.
func TestP32_3_ApplyEnds(t *testing.T) {
	bytes, _ := elem.PutNode(api.Node{Id: "a"})
	s := shelf.New()
	empty := hand.Even(s)
	node := hand.Even(s, api.Entry{Key: "a", Value: bytes})
	great := hand.Thicket(s, "a\x00x", "a")
	for i, c := range []struct {
		r api.Roots
		o api.Op
	}{
		{api.Roots{Nodes: hand.Thicket(s, "a", bytes), Edges: empty, Out: empty, In: empty}, op(api.OpNode, "a")},
		{api.Roots{Nodes: hand.Thicket(s, "a", bytes), Edges: empty, Out: empty, In: empty}, op(api.OpLabel, "a1500", "x")},
		{api.Roots{Nodes: node, Edges: great, Out: empty, In: empty}, op(api.OpEdge, "e", "a", "a")},
		{api.Roots{Nodes: node, Edges: empty, Out: great, In: empty}, op(api.OpEdge, "e", "a", "a")},
		{api.Roots{Nodes: node, Edges: empty, Out: empty, In: great}, op(api.OpEdge, "e", "a", "a")},
		{api.Roots{Nodes: node, Edges: empty, Out: great, In: empty}, op(api.OpDropNode, "a")},
		{api.Roots{Nodes: node, Edges: empty, Out: empty, In: great}, op(api.OpDropNode, "a")},
	} {
		name, e := Put(s, c.r)
		if e != api.OK {
			t.Fatal(e)
		}
		if got, at, e := Apply(s, name, op(api.OpUnmark, "no", "x")); e != api.ErrNone && e != api.ErrRot {
			t.Error(i, got, at, e)
		}
		if got, at, e := Apply(s, name, c.o); got != "" || at != 0 || e != api.ErrRot {
			t.Error(i, got, at, e)
		}
	}
}

func TestP32_3_KeysThatDoNotRise(t *testing.T) {
	s := shelf.New()
	bytes, _ := elem.PutNode(api.Node{Id: "a"})
	leaf := func(keys ...string) api.Twig {
		var l []api.Entry
		for _, key := range keys {
			l = append(l, api.Entry{Key: key, Value: bytes})
		}
		twig, _ := tree.Put(s, api.Chunk{Entries: l})
		return twig
	}
	over := func(level int, l ...api.Twig) api.Twig {
		twig, _ := tree.Put(s, chunk.Over(level, l...))
		return twig
	}
	nodes := over(2, over(1, leaf("d")), over(1, leaf("a", "e"))).Name
	if _, e := tree.All(s, nodes); e != api.OK {
		t.Fatal(e)
	}
	empty := hand.Even(s)
	name, _ := Put(s, api.Roots{Nodes: nodes, Edges: empty, Out: empty, In: empty})
	if g, e := Read(s, name); !none(g) || e != api.ErrRot {
		t.Error(g, e)
	}
	if got, at, e := Apply(s, name, op(api.OpNode, "z")); got != "" || at != 0 || e != api.ErrRot {
		t.Error(got, at, e)
	}
}

func TestP32_4_OneGraphOneName(t *testing.T) {
	var d sample.Dice
	for range 60 {
		from, to := d.Graph(), d.Graph()
		s := shelf.New()
		want, e := Write(s, to)
		if e != api.OK {
			t.Fatal(e)
		}
		name, e := Write(s, from)
		if e != api.OK {
			t.Fatal(e)
		}
		ops := leading(from, to)
		for len(ops) > 0 { // in batches of any size, by way of other graphs
			n := 1 + d.Below(len(ops))
			name, _, e = Apply(s, name, ops[:n]...)
			if e != api.OK {
				t.Fatal(e)
			}
			ops = ops[n:]
			if d.Below(3) > 0 {
				continue
			}
			there, _, e := Apply(s, name, op(api.OpNode, "z"), op(api.OpEdge, "z", "z", "z"), op(api.OpSetEdge, "z", "k"))
			if e != api.OK {
				t.Fatal(e)
			}
			back, _, e := Apply(s, there, op(api.OpDropEdge, "z"), op(api.OpDropNode, "z"))
			if back != name || e != api.OK {
				t.Fatal(e, "another name")
			}
		}
		if name != want {
			t.Fatal(from, to, "another name")
		}
	}
}

// leading is ops that lead from graph to graph: all goes, and all comes.
func leading(from, to api.Graph) []api.Op {
	var ops []api.Op
	for _, x := range from.Edges {
		ops = append(ops, op(api.OpDropEdge, x.Id))
	}
	for _, n := range from.Nodes {
		ops = append(ops, op(api.OpDropNode, n.Id))
	}
	parts := func(id string, label int, labels []string, set int, props []api.Prop) {
		for _, s := range slices.Backward(labels) {
			ops = append(ops, op(label, id, s))
		}
		for _, p := range slices.Backward(props) {
			ops = append(ops, api.Op{Kind: set, Id: id, Key: p.Key, Value: p.Value})
		}
	}
	for _, n := range slices.Backward(to.Nodes) {
		ops = append(ops, op(api.OpNode, n.Id))
		parts(n.Id, api.OpLabel, n.Labels, api.OpSet, n.Props)
	}
	for _, x := range slices.Backward(to.Edges) {
		ops = append(ops, op(api.OpEdge, x.Id, x.From, x.To))
		parts(x.Id, api.OpMark, x.Labels, api.OpSetEdge, x.Props)
	}
	return ops
}

func TestP32_4_OpsAreNotChanged(t *testing.T) {
	var d sample.Dice
	for range 50 {
		g := d.Graph()
		s, name := wrote(t, g)
		ops := sample.Room(drawn(&d, g, 20, d.Op), api.Op{Id: "other"})
		was := sample.All(ops)
		holds(t, s, name, g, ops...)
		if !slices.Equal(sample.All(ops), was) {
			t.Fatal(ops)
		}
		if is, e := Read(s, name); !same(is, g) || e != api.OK { // the graph that was is there still
			t.Fatal(is, e)
		}
	}
}
