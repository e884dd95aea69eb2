package graph

import (
	"reflect"
	"slices"
	"strconv"
	"strings"
	"testing"

	"pleach/api"
	"pleach/sample"
)

// same tells whether two graphs are the same; nil and empty lists are.
func same(a, b api.Graph) bool { return reflect.DeepEqual(sample.Plain(a), sample.Plain(b)) }

func ofNodes(l []api.Node) api.Graph { return api.Graph{Nodes: l} }

func ofEdges(l []api.Edge) api.Graph { return api.Graph{Edges: l} }

// many is a graph of so many nodes n1000, n1001 and so on, and so many edges from each to the next one.
func many(nodes, edges int) api.Graph {
	var g api.Graph
	for i := range nodes {
		g.Nodes = append(g.Nodes, api.Node{Id: "n" + strconv.Itoa(1000+i)})
	}
	for i := range edges {
		x := api.Edge{Id: "e" + strconv.Itoa(1000+i), From: "n1000", To: "n1000"}
		if nodes > 1 {
			x.To = g.Nodes[i%nodes].Id
		}
		g.Edges = append(g.Edges, x)
	}
	return g
}

// named is nodes with Ids, without anything else.
func named(ids ...string) []api.Node {
	var l []api.Node
	for _, id := range ids {
		l = append(l, api.Node{Id: id})
	}
	return l
}

// edge is one of a word: its Id, and its nodes.
func edge(s string) api.Edge {
	f := strings.Split(s, " ")
	return api.Edge{Id: f[0], From: f[1], To: f[2]}
}

func edges(l ...string) []api.Edge {
	var all []api.Edge
	for _, s := range l {
		all = append(all, edge(s))
	}
	return all
}

func prop(key string, n int) api.Prop {
	return api.Prop{Key: key, Value: api.Value{Kind: api.VInt, Num: n}}
}

// badNames are none.
func badNames() []string { return []string{"", "abcdefghijklm", "A", "a b", "a\x00", "_"} }

func TestP26_1_Check(t *testing.T) {
	bad := api.Node{Id: "c", Labels: []string{"b", "a"}}
	nine := strings.Split("a b c d e f g h i", " ")
	for i, c := range []struct {
		nodes []api.Node
		edges []api.Edge
		e     api.Errno
	}{
		{nil, nil, api.OK},
		{[]api.Node{}, []api.Edge{}, api.OK},
		{named("a"), nil, api.OK},
		{named("a", "b"), edges("e a b", "f b a", "g a a", "h a b"), api.OK},
		{named("-", "0", "a", "ab", "b"), edges("a a ab", "b b -"), api.OK}, // an edge may have a node's Id
		{[]api.Node{{Id: "a", Labels: []string{"a", "b"}, Props: []api.Prop{prop("a", 1), prop("b", 2)}}}, []api.Edge{{Id: "e", From: "a", To: "a", Labels: []string{"a"}, Props: []api.Prop{prop("z", 0)}}}, api.OK},
		{named("A"), nil, api.ErrArg},
		{named(""), nil, api.ErrArg},
		{named("a", "a"), nil, api.ErrOrder},
		{named("b", "a"), nil, api.ErrOrder},
		{named("a", "c", "b"), nil, api.ErrOrder},
		{named("b", "A", "a"), nil, api.ErrArg}, // node by node: what may not be is ahead of what does not rise
		{named("b", "a", "A"), nil, api.ErrOrder},
		{[]api.Node{bad, {Id: "A"}}, nil, api.ErrOrder},
		{[]api.Node{{Id: "d"}, bad}, nil, api.ErrOrder},
		{[]api.Node{{Id: "a", Labels: nine}}, nil, api.ErrLimit},
		{[]api.Node{{Id: "b"}, {Id: "a", Labels: nine}}, nil, api.ErrLimit},
		{[]api.Node{{Id: "a", Props: []api.Prop{{Key: "a"}}}}, nil, api.ErrArg},
		{named("a"), edges("e a b"), api.ErrNone},
		{named("a"), edges("e b a"), api.ErrNone},
		{nil, edges("e a a"), api.ErrNone},
		{named("a"), edges("e A a"), api.ErrArg},
		{named("a"), edges("e a B"), api.ErrArg},
		{named("a"), edges("E a a"), api.ErrArg},
		{named("a"), edges("e a a", "e a a"), api.ErrOrder},
		{named("a"), edges("f a a", "e a a"), api.ErrOrder},
		{named("a"), edges("f a a", "e a b"), api.ErrOrder}, // ahead of ErrNone
		{named("a"), edges("f a a", "E a b"), api.ErrArg},   // ahead of both
		{named("a"), edges("f a b", "e a a"), api.ErrNone},  // edge by edge
		{named("b", "a"), edges("E a b"), api.ErrOrder},     // nodes first
		{named("a"), []api.Edge{{Id: "e", From: "b", To: "c", Labels: nine}}, api.ErrLimit},
		{named("a"), []api.Edge{{Id: "e", From: "a", To: "a", Labels: []string{"b", "a"}}}, api.ErrOrder},
		{named("a"), []api.Edge{{Id: "e", From: "a", To: "a", Props: []api.Prop{{Key: "a"}}}}, api.ErrArg},
	} {
		if e := Check(api.Graph{Nodes: c.nodes, Edges: c.edges}); e != c.e {
			t.Error(i, e)
		}
	}
}

func TestP26_1_ChecksLimits(t *testing.T) {
	for i, c := range []struct {
		g api.Graph
		e api.Errno
	}{
		{many(500, 1000), api.OK},
		{many(1, 1000), api.OK},
		{many(501, 0), api.ErrLimit},
		{many(500, 1001), api.ErrLimit},
		{many(1, 1001), api.ErrLimit},
		{ofEdges(make([]api.Edge, 1000)), api.ErrArg},
		{ofEdges(make([]api.Edge, 1001)), api.ErrLimit}, // ahead of all else
		{ofNodes(make([]api.Node, 500)), api.ErrArg},
		{ofNodes(make([]api.Node, 501)), api.ErrLimit},
		{api.Graph{Nodes: named("A"), Edges: make([]api.Edge, 1001)}, api.ErrLimit},
	} {
		if e := Check(c.g); e != c.e {
			t.Error(i, e)
		}
	}
}

func TestP26_1_CopyAndSame(t *testing.T) {
	var d sample.Dice
	for range 300 {
		g := sample.RoomOf(d.Graph())
		was := sample.AllOf(g)
		c := Copy(g)
		if !same(c, g) || !Same(c, g) || !Same(g, c) || !Same(g, g) {
			t.Fatal(g, c)
		}
		sample.SpoilOf(c)
		if !reflect.DeepEqual(sample.AllOf(g), was) {
			t.Fatal(g)
		}
	}
}

// What is copied has a list's room for itself: none of its lists reaches into another one.
func TestP26_1_TheListsOfACopyAreApart(t *testing.T) {
	g := api.Graph{Nodes: named("a", "b"), Edges: edges("e a b", "f a b")}
	for i := range 2 {
		g.Nodes[i].Labels, g.Edges[i].Labels = []string{"x"}, []string{"x"}
		g.Nodes[i].Props, g.Edges[i].Props = []api.Prop{prop("k", 1)}, []api.Prop{prop("k", 1)}
	}
	c, d := Copy(g), Copy(g)
	for i := range 2 {
		sample.Spoil(c.Nodes[i].Labels)
		sample.Spoil(c.Nodes[i].Props)
		c.Nodes[i].Labels, c.Nodes[i].Props = []string{"x"}, []api.Prop{prop("k", 1)}
		sample.Spoil(c.Edges[i].Labels)
		sample.Spoil(c.Edges[i].Props)
		c.Edges[i].Labels, c.Edges[i].Props = []string{"x"}, []api.Prop{prop("k", 1)}
		if !same(c, g) || !same(d, g) {
			t.Fatal(i, c, d)
		}
	}
}

func TestP26_1_SameOfOthers(t *testing.T) {
	made := func() api.Graph {
		g := api.Graph{Nodes: named("a", "b"), Edges: edges("e a b", "f b b")}
		for i := range 2 {
			g.Nodes[i].Labels, g.Edges[i].Labels = []string{"x", "y"}, []string{"x", "y"}
			g.Nodes[i].Props, g.Edges[i].Props = []api.Prop{prop("k", 1), prop("l", 2)}, []api.Prop{prop("k", 1), prop("l", 2)}
		}
		return g
	}
	for i, other := range []func(g *api.Graph){
		func(g *api.Graph) { g.Nodes = g.Nodes[:1] },
		func(g *api.Graph) { g.Edges = g.Edges[:1] },
		func(g *api.Graph) { g.Nodes = nil },
		func(g *api.Graph) { g.Edges = nil },
		func(g *api.Graph) { g.Nodes = append(g.Nodes, api.Node{}) },
		func(g *api.Graph) { g.Edges = append(g.Edges, api.Edge{}) },
		func(g *api.Graph) { g.Nodes[1].Id = "c" },
		func(g *api.Graph) { g.Nodes[0].Labels = []string{"x"} },
		func(g *api.Graph) { g.Nodes[1].Labels[1] = "z" },
		func(g *api.Graph) { g.Nodes[0].Props = nil },
		func(g *api.Graph) { g.Nodes[1].Props[1].Key = "m" },
		func(g *api.Graph) { g.Nodes[1].Props[1].Value.Num = 3 },
		func(g *api.Graph) { g.Nodes[1].Props[1].Value.Kind = api.VBool },
		func(g *api.Graph) { g.Nodes[1].Props[1].Value.Text = "x" },
		func(g *api.Graph) { g.Edges[1].Id = "g" },
		func(g *api.Graph) { g.Edges[1].From = "a" },
		func(g *api.Graph) { g.Edges[1].To = "a" },
		func(g *api.Graph) { g.Edges[0].Labels = nil },
		func(g *api.Graph) { g.Edges[1].Labels[0] = "w" },
		func(g *api.Graph) { g.Edges[0].Props = g.Edges[0].Props[:1] },
		func(g *api.Graph) { g.Edges[1].Props[0].Value.Num = 3 },
		func(g *api.Graph) { slices.Reverse(g.Nodes) }, // graphs that may not be are held against each other, too
		func(g *api.Graph) { slices.Reverse(g.Edges) },
		func(g *api.Graph) { slices.Reverse(g.Nodes[0].Labels) },
		func(g *api.Graph) { slices.Reverse(g.Edges[0].Props) },
	} {
		a, b := made(), made()
		other(&b)
		if !Same(a, made()) || Same(a, b) || Same(b, a) || !Same(b, b) || !Same(b, Copy(b)) {
			t.Error(i)
		}
	}
	empty := api.Graph{Nodes: []api.Node{{Id: "a", Labels: []string{}, Props: []api.Prop{}}}, Edges: []api.Edge{}}
	if !Same(empty, ofNodes(named("a"))) || !Same(ofNodes(named("a")), empty) {
		t.Error("nil and empty lists mean the same")
	}
}

func TestP26_2_NodeAndEdge(t *testing.T) {
	var d sample.Dice
	for range 300 {
		g := sample.RoomOf(d.Graph())
		was := sample.AllOf(g)
		for _, id := range []string{"", "a", "e", "e0", "e1", "e2", "e3", "e4", "e5", "e6", "n", "n0", "n00", "n1", "n2", "n3", "n4", "n5", "n6", "z", "A"} {
			var node []api.Node
			var edge []api.Edge
			for _, n := range g.Nodes {
				if n.Id == id {
					node = append(node, n)
				}
			}
			for _, x := range g.Edges {
				if x.Id == id {
					edge = append(edge, x)
				}
			}
			n, is := Node(g, id)
			if is != (len(node) == 1) || is && !same(ofNodes(node), ofNodes([]api.Node{n})) || !is && !reflect.DeepEqual(n, api.Node{}) {
				t.Fatal(g, id, n, is)
			}
			x, is := Edge(g, id)
			if is != (len(edge) == 1) || is && !same(ofEdges(edge), ofEdges([]api.Edge{x})) || !is && !reflect.DeepEqual(x, api.Edge{}) {
				t.Fatal(g, id, x, is)
			}
			sample.SpoilOf(api.Graph{Nodes: []api.Node{n}, Edges: []api.Edge{x}})
		}
		if !reflect.DeepEqual(sample.AllOf(g), was) {
			t.Fatal(g)
		}
	}
}

func TestP26_2_OutInLabelled(t *testing.T) {
	var d sample.Dice
	for range 300 {
		g := sample.RoomOf(d.Graph())
		was := sample.AllOf(g)
		for _, s := range []string{"", "e0", "l0", "l1", "l2", "n0", "n1", "n2", "n3", "n4", "n5", "n6", "A"} {
			var out, in []api.Edge
			var labelled []api.Node
			for _, x := range g.Edges {
				if x.From == s {
					out = append(out, x)
				}
				if x.To == s {
					in = append(in, x)
				}
			}
			for _, n := range g.Nodes {
				if slices.Contains(n.Labels, s) {
					labelled = append(labelled, n)
				}
			}
			gotOut, gotIn, gotLabelled := Out(g, s), In(g, s), Labelled(g, s)
			if !same(ofEdges(gotOut), ofEdges(out)) || !same(ofEdges(gotIn), ofEdges(in)) || !same(ofNodes(gotLabelled), ofNodes(labelled)) {
				t.Fatal(g, s, gotOut, gotIn, gotLabelled)
			}
			sample.SpoilOf(api.Graph{Nodes: gotLabelled, Edges: gotOut})
			sample.SpoilOf(ofEdges(gotIn))
		}
		if !reflect.DeepEqual(sample.AllOf(g), was) {
			t.Fatal(g)
		}
	}
}

// Graphs that may not be: the calls end, and change nothing of them.
func TestP26_2_GraphsThatMayNotBe(t *testing.T) {
	for _, g := range oddGraphs() {
		g := sample.RoomOf(g)
		was := sample.AllOf(g)
		for _, s := range []string{"", "a", "b", "e", "x", "A"} {
			Node(g, s)
			Edge(g, s)
			Out(g, s)
			In(g, s)
			Labelled(g, s)
		}
		if c := Copy(g); !same(c, g) || !Same(c, g) {
			t.Error(g, c)
		}
		if !reflect.DeepEqual(sample.AllOf(g), was) {
			t.Error(g)
		}
	}
}

// oddGraphs may not be.
func oddGraphs() []api.Graph {
	return []api.Graph{
		ofNodes(named("b", "a")),
		ofNodes(named("", "", "A")),
		ofEdges(edges("e a b")),
		{Nodes: named("a", "a"), Edges: edges("f a b", "e a a")},
		ofNodes([]api.Node{{Id: "a", Labels: []string{"x", "b", "x"}, Props: []api.Prop{{}, prop("k", 1), {}}}}),
		ofNodes(make([]api.Node, 600)),
		ofEdges(make([]api.Edge, 1100)),
	}
}
