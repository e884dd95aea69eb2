package query

import (
	"fmt"
	"reflect"
	"slices"
	"strings"
	"testing"

	"pleach/api"
	"pleach/elem"
	"pleach/graph"
	"pleach/hand"
	"pleach/keys"
	"pleach/quad"
	"pleach/sample"
	"pleach/sha"
	"pleach/shelf"
)

// same tells whether two graphs are the same; nil and empty lists are.
func same(a, b api.Graph) bool { return reflect.DeepEqual(sample.Plain(a), sample.Plain(b)) }

func ofNodes(l []api.Node) api.Graph { return api.Graph{Nodes: l} }

func ofEdges(l []api.Edge) api.Graph { return api.Graph{Edges: l} }

// many is a graph of so many nodes and edges.
func many(nodes, edges int) api.Graph {
	var g api.Graph
	for i := range nodes {
		g.Nodes = append(g.Nodes, api.Node{Id: fmt.Sprint("n", 1000+i), Labels: []string{"l0", "l1"}[:i%3], Props: []api.Prop{{Key: "k", Value: api.Value{Kind: api.VInt, Num: i}}}})
	}
	for i := range edges {
		x := api.Edge{Id: fmt.Sprint("e", 1000+i), From: g.Nodes[i*7%nodes].Id, To: g.Nodes[i*i%nodes].Id}
		x.Labels = []string{"l0", "l1"}[:i%3]
		g.Edges = append(g.Edges, x)
	}
	return g
}

// graphs is graphs that may be, of many sizes.
func graphs() []api.Graph {
	star := many(20, 1000)
	for i := range star.Edges {
		star.Edges[i].From, star.Edges[i].To = star.Nodes[7].Id, star.Nodes[i*i%11].Id
	}
	l := []api.Graph{{}, many(1, 0), many(1, 3), many(40, 0), many(40, 90), many(500, 1000), star}
	var d sample.Dice
	for range 100 {
		l = append(l, d.Graph())
	}
	return l
}

// wrote is a shelf with a graph alone, and its name.
func wrote(t *testing.T, g api.Graph) (*shelf.Shelf, string) {
	t.Helper()
	s := shelf.New()
	name, e := quad.Write(s, g)
	if e != api.OK {
		t.Fatal(g, e)
	}
	return s, name
}

// asked is the Ids of which a graph is asked, and some that it has not.
func asked(g api.Graph) []string {
	l := []string{"a", "z", "n", "e", "l0", "l1", "l2"}
	for _, n := range g.Nodes {
		l = append(l, n.Id)
	}
	for _, x := range g.Edges {
		l = append(l, x.Id)
	}
	if len(l) > 100 {
		return l[:100]
	}
	return l
}

func badNames() []string {
	return []string{"", "A", "abcdefghijklm", "a\x00", "n0\x00e0", "\x00", "é", "_", strings.Repeat("a", 65)}
}

// told holds all that is told of a stored graph against what the graph is.
func told(t *testing.T, s *shelf.Shelf, name string, g api.Graph, id string) {
	t.Helper()
	var node []api.Node
	var edge, out, in []api.Edge
	var next []string
	var labelled []api.Node
	for _, n := range g.Nodes {
		if n.Id == id {
			node = append(node, n)
		}
		if slices.Contains(n.Labels, id) {
			labelled = append(labelled, n)
		}
	}
	for _, x := range g.Edges {
		if x.Id == id {
			edge = append(edge, x)
		}
		if x.From == id {
			out, next = append(out, x), append(next, x.To)
		}
		if x.To == id {
			in = append(in, x)
		}
	}
	slices.Sort(next)
	next = slices.Compact(next)
	n, e := Node(s, name, id)
	if len(node) == 1 && (!same(ofNodes([]api.Node{n}), ofNodes(node)) || e != api.OK) || len(node) == 0 && (!reflect.DeepEqual(n, api.Node{}) || e != api.ErrNone) {
		t.Fatal(g, id, n, e)
	}
	x, e := Edge(s, name, id)
	if len(edge) == 1 && (!same(ofEdges([]api.Edge{x}), ofEdges(edge)) || e != api.OK) || len(edge) == 0 && (!reflect.DeepEqual(x, api.Edge{}) || e != api.ErrNone) {
		t.Fatal(g, id, x, e)
	}
	if l, e := Out(s, name, id); !same(ofEdges(l), ofEdges(out)) || e != api.OK {
		t.Fatal(g, id, l, e)
	}
	if l, e := In(s, name, id); !same(ofEdges(l), ofEdges(in)) || e != api.OK {
		t.Fatal(g, id, l, e)
	}
	if l, e := Next(s, name, id); !slices.Equal(l, next) || e != api.OK {
		t.Fatal(g, id, l, e)
	}
	if l, e := Labelled(s, name, id); !same(ofNodes(l), ofNodes(labelled)) || e != api.OK {
		t.Fatal(g, id, l, e)
	}
}

func TestP33_1_WhatIsTold(t *testing.T) {
	for _, g := range graphs() {
		s, name := wrote(t, g)
		was := s.Len()
		for _, id := range asked(g) {
			told(t, s, name, g, id)
		}
		if n, m, e := Count(s, name); n != len(g.Nodes) || m != len(g.Edges) || e != api.OK {
			t.Fatal(g, n, m, e)
		}
		if s.Len() != was {
			t.Fatal(s.Len(), was)
		}
	}
}

func TestP33_1_ANodeThatIsNotThere(t *testing.T) {
	s, name := wrote(t, many(3, 3))
	if l, e := Out(s, name, "a"); len(l) != 0 || e != api.OK {
		t.Error(l, e)
	}
}

// Names that begin alike, loops, and edges side by side.
func TestP33_1_OutInNext(t *testing.T) {
	g := api.Graph{
		Nodes: []api.Node{{Id: "a"}, {Id: "a-"}, {Id: "a-b"}, {Id: "aa"}, {Id: "b"}},
		Edges: []api.Edge{
			{Id: "a", From: "a-", To: "a"},
			{Id: "a-", From: "a", To: "b"},
			{Id: "b", From: "a", To: "a"},
			{Id: "c", From: "a-b", To: "a-"},
			{Id: "d", From: "a", To: "b"},
			{Id: "e", From: "a", To: "a-"},
			{Id: "f", From: "aa", To: "aa"},
		},
	}
	s, name := wrote(t, g)
	for _, n := range g.Nodes {
		told(t, s, name, g, n.Id)
	}
	if l, e := Next(s, name, "a"); !slices.Equal(l, []string{"a", "a-", "b"}) || e != api.OK {
		t.Error(l, e)
	}
}

// each asks everything of an Id.
func each(s *shelf.Shelf, name, id string) (answers []any, errors []api.Errno) {
	add := func(x any, e api.Errno) {
		answers, errors = append(answers, x), append(errors, e)
	}
	n, e := Node(s, name, id)
	add(n, e)
	x, e := Edge(s, name, id)
	add(x, e)
	l, e := Out(s, name, id)
	add(l, e)
	l, e = In(s, name, id)
	add(l, e)
	next, e := Next(s, name, id)
	add(next, e)
	labelled, e := Labelled(s, name, id)
	add(labelled, e)
	nodes, edges, e := Count(s, name)
	add([2]int{nodes, edges}, e)
	return answers, errors
}

// empty tells whether an answer beside an error is its zero value.
func empty(x any) bool { return reflect.ValueOf(x).IsZero() }

func TestP33_1_NamesThatAreNone(t *testing.T) {
	s, name := wrote(t, many(20, 30))
	for _, bad := range badNames() {
		answers, errors := each(s, name, bad)
		want := []api.Errno{api.ErrNone, api.ErrNone, api.ErrArg, api.ErrArg, api.ErrArg, api.ErrArg, api.OK}
		if !slices.Equal(errors, want) {
			t.Errorf("%q: %v", bad, errors)
		}
		for i, x := range answers[:6] {
			if !empty(x) {
				t.Errorf("%q: %d: %v", bad, i, x)
			}
		}
		for _, s := range append(hand.NoShelves(), shelf.New()) { // whatever is stored
			_, errors := each(s, name, bad)
			want := []api.Errno{api.ErrRot, api.ErrRot, api.ErrArg, api.ErrArg, api.ErrArg, api.ErrArg, api.ErrRot}
			if !slices.Equal(errors, want) {
				t.Errorf("%q: %v", bad, errors)
			}
		}
	}
}

func TestP33_1_NoStoredGraph(t *testing.T) {
	s, name := wrote(t, many(20, 30))
	r, _ := quad.Load(s, name)
	notOne, _ := s.Put("G")
	for _, s := range append(hand.NoShelves(), s, hand.Without(s, name)) {
		for _, g := range []string{"", "x", notOne, r.Nodes, sha.Sum("none"), name[:31], name} {
			if g == name && s.Has(name) {
				continue
			}
			answers, errors := each(s, g, "n1001")
			for i, x := range answers {
				if !empty(x) || errors[i] != api.ErrRot {
					t.Errorf("%q: %d: %v %v", g, i, x, errors[i])
				}
			}
		}
	}
}

func TestP33_1_WhereAnObjectIsNotThere(t *testing.T) {
	g := many(40, 60)
	s, name := wrote(t, g)
	for _, id := range []string{"n1000", "n1007", "n1039", "e1000", "e1033", "l0", "z"} {
		want, wantE := each(s, name, id)
		rot := make([]int, len(want))
		for _, gone := range s.Names() {
			got, e := each(hand.Without(s, gone), name, id)
			for i := range got {
				switch {
				case e[i] == api.ErrRot && empty(got[i]):
					rot[i]++
				case !reflect.DeepEqual(got[i], want[i]) || e[i] != wantE[i]:
					t.Fatal(id, i, got[i], e[i])
				}
			}
		}
		for i, n := range rot { // the graph's text, and the root, at least
			if n < 2 {
				t.Error(id, i, n)
			}
		}
		if n := rot[6]; n != 3 { // and of both the roots alone
			t.Error(n)
		}
	}
}

// By a few chunks: those that lead to what is asked need be there alone.
func TestP33_1_AFewChunks(t *testing.T) {
	g := many(100, 300)
	s, name := wrote(t, g)
	r, _ := quad.Load(s, name)
	for _, id := range []string{"n1000", "n1050", "n1099", "e1000", "e1150", "e1299", "z", "a"} {
		if n, e := Node(hand.With(s, append(hand.Way(s, r.Nodes, id), name)...), name, id); e != api.OK && e != api.ErrNone {
			t.Error(id, n, e)
		}
		if x, e := Edge(hand.With(s, append(hand.Way(s, r.Edges, id), name)...), name, id); e != api.OK && e != api.ErrNone {
			t.Error(id, x, e)
		}
	}
	for _, id := range []string{"n1000", "n1007", "n1050", "n1099"} {
		for _, side := range []struct {
			root  string
			edges []api.Edge
			ask   func(s *shelf.Shelf, g, id string) ([]api.Edge, api.Errno)
		}{{r.Out, graph.Out(g, id), Out}, {r.In, graph.In(g, id), In}} {
			names := append(hand.Way(s, side.root, keys.Begin(id)), name)
			for _, x := range side.edges {
				key, _ := keys.Of(id, x.Id)
				names = slices.Concat(names, hand.Way(s, side.root, key), hand.Way(s, side.root, key+"\x00"), hand.Way(s, r.Edges, x.Id))
			}
			if l, e := side.ask(hand.With(s, names...), name, id); !same(ofEdges(l), ofEdges(side.edges)) || e != api.OK {
				t.Error(id, l, e)
			}
		}
	}
	nodes := []string{name}
	for _, n := range g.Nodes {
		nodes = append(nodes, hand.Way(s, r.Nodes, n.Id)...)
	}
	if l, e := Labelled(hand.With(s, nodes...), name, "l0"); !same(ofNodes(l), ofNodes(graph.Labelled(g, "l0"))) || e != api.OK {
		t.Error(l, e)
	}
	if n, m, e := Count(hand.With(s, name, r.Nodes, r.Edges), name); n != 100 || m != 300 || e != api.OK {
		t.Error(n, m, e)
	}
}

// Stored graphs whose trees are cut otherwise.
func TestP33_1_OddTrees(t *testing.T) {
	for _, g := range graphs()[:12] {
		s := shelf.New()
		maps, _ := keys.Lay(g)
		name := hand.Store(s, maps, hand.Odd)
		for _, id := range asked(g) {
			told(t, s, name, g, id)
		}
		if n, m, e := Count(s, name); n != len(g.Nodes) || m != len(g.Edges) || e != api.OK {
			t.Fatal(g, n, m, e)
		}
	}
}

func entry(key, value string) api.Entry { return api.Entry{Key: key, Value: value} }

// Maps that are no graph's: what is not as it must be is ErrRot.
func TestP33_1_MapsThatAreNoGraphs(t *testing.T) {
	for _, bytes := range []string{"", "\x00", "x", "\x00\x00\x00"} {
		s := shelf.New()
		name := hand.Store(s, [4][]api.Entry{{entry("a", bytes)}, {entry("e", bytes)}, {entry("a\x00e", "b")}, {entry("a\x00e", "b")}}, hand.Even)
		_, errors := each(s, name, "a")
		if want := []api.Errno{api.ErrRot, api.ErrNone, api.ErrRot, api.ErrRot, api.ErrRot, api.ErrRot, api.OK}; !slices.Equal(errors, want) {
			t.Errorf("%q: %v", bytes, errors)
		}
		if x, e := Edge(s, name, "e"); !empty(x) || e != api.ErrRot {
			t.Error(x, e)
		}
	}
	node, _ := elem.PutNode(api.Node{})
	edge, _ := elem.PutEdge(api.Edge{Id: "e", From: "a", To: "a"})
	for _, key := range []string{"a\x00f", "a\x00", "a\x00e\x00", "a\x00\x00e", "a\x00E"} {
		s := shelf.New()
		name := hand.Store(s, [4][]api.Entry{{entry("a", node)}, {entry("e", edge)}, {entry(key, "a")}, {entry(key, "a")}}, hand.Even)
		for _, ask := range []func(s *shelf.Shelf, g, id string) ([]api.Edge, api.Errno){Out, In} {
			if l, e := ask(s, name, "a"); l != nil || e != api.ErrRot {
				t.Errorf("%q: %v %v", key, l, e)
			}
		}
		if l, e := Next(s, name, "a"); l != nil || e != api.ErrRot {
			t.Errorf("%q: %v %v", key, l, e)
		}
	}
}

// Trees by hand that have more than could be gone through.
func TestP33_1_AllCallsEnd(t *testing.T) {
	node, _ := elem.PutNode(api.Node{Id: "a", Labels: []string{"x"}})
	edge, _ := elem.PutEdge(api.Edge{Id: "a", From: "a", To: "a"})
	s := shelf.New()
	r := api.Roots{Nodes: hand.Thicket(s, "a", node), Edges: hand.Thicket(s, "a", edge), Out: hand.Thicket(s, "a\x00a", "a"), In: hand.Thicket(s, "a\x00a", "a")}
	name, _ := quad.Put(s, r)
	for _, id := range []string{"a", "x", "a1500", "a1493", "z"} {
		answers, errors := each(s, name, id)
		for i, want := range []api.Errno{api.OK, api.OK, api.ErrRot, api.ErrRot, api.ErrRot, api.ErrRot, api.OK} {
			if errors[i] != want && (i > 1 || errors[i] != api.ErrNone) || errors[i] != api.OK && !empty(answers[i]) {
				t.Error(id, i, errors[i])
			}
		}
	}
}

func TestP33_2_AsGraphTells(t *testing.T) {
	for _, g := range graphs() {
		s, name := wrote(t, g)
		for _, id := range asked(g) {
			n, e := Node(s, name, id)
			want, ok := graph.Node(g, id)
			if !same(ofNodes([]api.Node{n}), ofNodes([]api.Node{want})) || ok != (e == api.OK) {
				t.Fatal(g, id, n, e)
			}
			x, e := Edge(s, name, id)
			wantX, ok := graph.Edge(g, id)
			if !same(ofEdges([]api.Edge{x}), ofEdges([]api.Edge{wantX})) || ok != (e == api.OK) {
				t.Fatal(g, id, x, e)
			}
			out, _ := Out(s, name, id)
			in, _ := In(s, name, id)
			if !same(ofEdges(out), ofEdges(graph.Out(g, id))) || !same(ofEdges(in), ofEdges(graph.In(g, id))) {
				t.Fatal(g, id, out, in)
			}
			if l, _ := Labelled(s, name, id); !same(ofNodes(l), ofNodes(graph.Labelled(g, id))) {
				t.Fatal(g, id, l)
			}
		}
	}
}

func TestP33_2_ListsAreApart(t *testing.T) {
	g := many(6, 20)
	s, name := wrote(t, g)
	for _, n := range g.Nodes {
		for range 2 {
			told(t, s, name, g, n.Id)
			node, _ := Node(s, name, n.Id)
			edge, _ := Edge(s, name, g.Edges[8].Id)
			out, _ := Out(s, name, n.Id)
			in, _ := In(s, name, n.Id)
			next, _ := Next(s, name, n.Id)
			labelled, _ := Labelled(s, name, "l0")
			for i := range labelled { // no list reaches into another one
				labelled[i].Labels = append(labelled[i].Labels, "other")
				labelled[i].Props = append(labelled[i].Props, api.Prop{Key: "other"})
			}
			for _, n := range labelled {
				if len(n.Labels) > 3 || len(n.Props) != 2 || n.Labels[len(n.Labels)-1] != "other" || n.Props[1].Key != "other" {
					t.Fatal(n)
				}
			}
			sample.SpoilOf(api.Graph{Nodes: labelled, Edges: out})
			sample.SpoilOf(api.Graph{Nodes: []api.Node{node}, Edges: append(in, edge)})
			sample.Spoil(next)
		}
	}
}
