package patch

import (
	"reflect"
	"slices"
	"strconv"
	"strings"
	"testing"

	"pleach/api"
	"pleach/facts"
	"pleach/graph"
	"pleach/sample"
)

// most is how many ops there may be between two graphs: as many as facts that are other ones, and as those of edges whose nodes are other ones, twice.
func most(a, b api.Graph) int {
	was, is := facts.Of(a), facts.Of(b)
	n := 0
	for _, c := range facts.Diff(was, is) {
		if !moved(a, b, c.Kind, c.Id) {
			n++
		}
	}
	for _, c := range facts.Diff(nil, facts.Apply(was, facts.Diff(nil, is)...)) { // what is in one of both, or in both, once
		if moved(a, b, c.Kind, c.Id) {
			n += 2
		}
	}
	return n
}

// moved tells whether a fact is of an edge whose nodes are other ones.
func moved(a, b api.Graph, kind int, id string) bool {
	x, inA := graph.Edge(a, id)
	y, inB := graph.Edge(b, id)
	return kind >= api.FEdge && inA && inB && (x.From != y.From || x.To != y.To)
}

// leads tells that ops lead from a to b, that none can be left out, and that there are not too many; of these as many are tried.
func leads(t *testing.T, a, b api.Graph, ops []api.Op, tries int) {
	t.Helper()
	if g, at, e := graph.Apply(a, ops...); e != api.OK || !graph.Same(g, b) {
		t.Fatal(a, b, ops, at, e)
	}
	if len(ops) > most(a, b) {
		t.Fatal(a, b, ops, most(a, b))
	}
	for i := range min(len(ops), tries) {
		less := slices.Delete(slices.Clone(ops), i, i+1)
		if g, _, e := graph.Apply(a, less...); e == api.OK && graph.Same(g, b) {
			t.Fatal(a, b, ops, i)
		}
	}
}

// drawn is ops that a graph lets be, and the graph behind them.
func drawn(d *sample.Dice, g api.Graph, n int) ([]api.Op, api.Graph) {
	var ops []api.Op
	for range n {
		o := d.Op()
		if next, _, e := graph.Apply(g, o); e == api.OK {
			g = next
			ops = append(ops, o)
		}
	}
	return ops, g
}

func TestP29_1_Between(t *testing.T) {
	var d sample.Dice
	for i := range 3000 {
		a, b := d.Graph(), d.Graph()
		if i%2 == 0 {
			_, b = drawn(&d, a, d.Below(20))
		}
		ops, e := Between(a, b)
		if e != api.OK {
			t.Fatal(e)
		}
		leads(t, a, b, ops, len(ops))
	}
}

// No row of the ops leads there, either, that leaves out several at once.
func TestP29_1_NoOpsCanBeLeftOut(t *testing.T) {
	var d sample.Dice
	for range 300 {
		a := d.Graph()
		_, b := drawn(&d, a, 8)
		ops, _ := Between(a, b)
		few := min(len(ops), 9)
		for set := range 1<<few - 1 {
			var less []api.Op
			for i, o := range ops {
				if i >= few || set>>i&1 == 1 {
					less = append(less, o)
				}
			}
			if g, _, e := graph.Apply(a, less...); e == api.OK && graph.Same(g, b) {
				t.Fatal(a, b, ops, less)
			}
		}
	}
}

func names(n int) []string {
	var l []string
	for i := range n {
		l = append(l, "a"+strconv.Itoa(1000+i))
	}
	return l
}

// laid is a graph of nodes with Ids, and edges, each of its Id and its two nodes.
func laid(nodes []string, edges ...string) api.Graph {
	var g api.Graph
	for _, id := range nodes {
		g.Nodes = append(g.Nodes, api.Node{Id: id})
	}
	for _, s := range edges {
		f := strings.Split(s, " ")
		g.Edges = append(g.Edges, api.Edge{Id: f[0], From: f[1], To: f[2]})
	}
	return g
}

// full is labels and properties, so many of each, from one on.
func full(from, to int) ([]string, []api.Prop) {
	labels := names(to)[from:]
	var props []api.Prop
	for _, s := range labels {
		props = append(props, api.Prop{Key: s, Value: api.Value{Kind: api.VText, Text: s}})
	}
	return labels, props
}

func TestP29_1_ThroughFullGraphs(t *testing.T) {
	var edges, others, moved []string
	for _, s := range names(1000) {
		edges = append(edges, s+" a1000 a1000")
		others = append(others, "b"+s+" a1001 a1000")
		moved = append(moved, s+" a1001 a1000")
	}
	l := names(1000)
	for i, c := range [][2]api.Graph{
		{laid(l[:500]), laid(l[500:])},
		{laid(l[:500], edges...), laid(l[:500], others...)},
		{laid(l[:500], edges...), laid(l[:500], moved...)},
		{laid(l[:500], edges...), laid(l[1:501], "e a1001 a1500")},
		{laid(l[:500], edges...), {}},
	} {
		for range 2 {
			ops, e := Between(c[0], c[1])
			if e != api.OK {
				t.Error(i, e)
			}
			leads(t, c[0], c[1], ops, 0)
			c[0], c[1] = c[1], c[0]
		}
	}
	a, b := laid(l[:2], "e a1000 a1001"), laid(l[:2], "e a1000 a1001")
	for first := range 9 { // eight labels and properties become eight others
		a.Nodes[0].Labels, a.Nodes[0].Props = full(8, 16)
		b.Nodes[0].Labels, b.Nodes[0].Props = full(first, first+8)
		a.Edges[0].Labels, a.Edges[0].Props = full(first, first+8)
		b.Edges[0].Labels, b.Edges[0].Props = full(8, 16)
		ops, e := Between(a, b)
		if e != api.OK || len(ops) != 2*4*(8-first) {
			t.Error(first, len(ops), e)
		}
		leads(t, a, b, ops, len(ops))
	}
}

func TestP29_1_OneByOne(t *testing.T) {
	l := names(3)
	a := laid(l, "e a1000 a1001")
	a.Nodes[0].Labels, a.Nodes[0].Props = full(0, 3)
	a.Edges[0].Labels, a.Edges[0].Props = full(0, 3)
	one := api.Value{Kind: api.VInt, Num: 1}
	for i, c := range []struct {
		become func(g *api.Graph)
		want   []api.Op
	}{
		{func(g *api.Graph) {}, nil},
		{func(g *api.Graph) { g.Nodes = append(g.Nodes, api.Node{Id: "z"}) }, []api.Op{{Kind: api.OpNode, Id: "z"}}},
		{func(g *api.Graph) { g.Nodes = g.Nodes[:2] }, []api.Op{{Kind: api.OpDropNode, Id: "a1002"}}},
		{func(g *api.Graph) { g.Edges = append(g.Edges, api.Edge{Id: "f", From: "a1002", To: "a1000"}) }, []api.Op{{Kind: api.OpEdge, Id: "f", From: "a1002", To: "a1000"}}},
		{func(g *api.Graph) { g.Edges = nil }, []api.Op{{Kind: api.OpDropEdge, Id: "e"}}}, // its labels and properties go with it
		{func(g *api.Graph) { g.Nodes[2].Labels = []string{"x"} }, []api.Op{{Kind: api.OpLabel, Id: "a1002", Key: "x"}}},
		{func(g *api.Graph) { g.Nodes[0].Labels = names(2) }, []api.Op{{Kind: api.OpUnlabel, Id: "a1000", Key: "a1002"}}},
		{func(g *api.Graph) { g.Nodes[0].Props[1].Value = one }, []api.Op{{Kind: api.OpSet, Id: "a1000", Key: "a1001", Value: one}}},
		{func(g *api.Graph) { g.Nodes[0].Props = g.Nodes[0].Props[1:] }, []api.Op{{Kind: api.OpUnset, Id: "a1000", Key: "a1000"}}},
		{func(g *api.Graph) { g.Edges[0].Labels = append(names(3), "x") }, []api.Op{{Kind: api.OpMark, Id: "e", Key: "x"}}},
		{func(g *api.Graph) { g.Edges[0].Labels = names(2) }, []api.Op{{Kind: api.OpUnmark, Id: "e", Key: "a1002"}}},
		{func(g *api.Graph) { g.Edges[0].Props[2].Value = one }, []api.Op{{Kind: api.OpSetEdge, Id: "e", Key: "a1002", Value: one}}},
		{func(g *api.Graph) { g.Edges[0].Props = g.Edges[0].Props[:2] }, []api.Op{{Kind: api.OpUnsetEdge, Id: "e", Key: "a1002"}}},
	} {
		b := graph.Copy(a)
		c.become(&b)
		if ops, e := Between(a, b); !slices.Equal(ops, c.want) || e != api.OK {
			t.Error(i, ops, e)
		}
	}
	b := graph.Copy(a) // a node goes with all that it has
	b.Nodes, b.Edges = b.Nodes[1:], nil
	ops, _ := Between(a, b)
	if len(ops) != 2 {
		t.Error(ops)
	}
	leads(t, a, b, ops, 2)
}

func TestP29_1_AnEdgeWithOtherNodes(t *testing.T) {
	l := names(3)
	a := laid(l, "e a1000 a1001")
	a.Edges[0].Labels, a.Edges[0].Props = full(0, 3)
	for _, s := range []string{"e a1001 a1000", "e a1000 a1000", "e a1002 a1001", "e a1000 a1002"} {
		for from := range 3 {
			b := laid(l, s)
			b.Edges[0].Labels, b.Edges[0].Props = full(from, 4)
			ops, e := Between(a, b)
			if e != api.OK || len(ops) != 2+2*(4-from) {
				t.Error(ops, e)
			}
			leads(t, a, b, ops, len(ops))
		}
	}
	b := laid(l[1:], "e a1001 a1001") // one of its nodes goes
	ops, _ := Between(a, b)
	if len(ops) != 3 {
		t.Error(ops)
	}
	leads(t, a, b, ops, len(ops))
}

// bad are graphs that may not be, each with an error of its own.
func bad() map[api.Errno]api.Graph {
	return map[api.Errno]api.Graph{
		api.ErrArg:   laid([]string{"A"}),
		api.ErrOrder: laid([]string{"b", "a"}),
		api.ErrNone:  laid(nil, "e a b"),
		api.ErrLimit: laid(names(501)),
	}
}

func TestP29_1_BetweensErrors(t *testing.T) {
	for e, g := range bad() {
		if ops, got := Between(g, laid([]string{"a"})); len(ops) != 0 || got != e {
			t.Error(ops, got, e)
		}
		if ops, got := Between(laid([]string{"a"}), g); len(ops) != 0 || got != e {
			t.Error(ops, got, e)
		}
		for _, other := range bad() { // the first one's is told
			if ops, got := Between(g, other); len(ops) != 0 || got != e {
				t.Error(ops, got, e)
			}
		}
	}
}

func TestP29_1_ErrorsOfApply(t *testing.T) {
	node := api.Op{Kind: api.OpNode, Id: "z"}
	for e, g := range bad() {
		for _, ops := range [][]api.Op{nil, {node}, {{}}} {
			if l, got := Turned(g, ops...); len(l) != 0 || got != e {
				t.Error(l, got, e)
			}
			if l, got := Short(g, ops...); len(l) != 0 || got != e {
				t.Error(l, got, e)
			}
		}
	}
	g := laid([]string{"a", "b"}, "e a b")
	for e, o := range map[api.Errno]api.Op{
		api.ErrArg:   {},
		api.ErrTwice: {Kind: api.OpNode, Id: "a"},
		api.ErrNone:  {Kind: api.OpDropNode, Id: "c"},
		api.ErrBusy:  {Kind: api.OpDropNode, Id: "a"},
	} {
		if l, got := Turned(g, node, o); len(l) != 0 || got != e {
			t.Error(l, got, e)
		}
		if l, got := Short(g, node, o); len(l) != 0 || got != e {
			t.Error(l, got, e)
		}
	}
}

func TestP29_1_TurnedAndShortAreBetween(t *testing.T) {
	var d sample.Dice
	for range 1000 {
		g := d.Graph()
		ops, behind := drawn(&d, g, d.Below(30))
		back, e := Turned(g, ops...)
		if want, _ := Between(behind, g); !slices.Equal(back, want) || e != api.OK {
			t.Fatal(g, ops, back, e)
		}
		short, e := Short(g, ops...)
		if want, _ := Between(g, behind); !slices.Equal(short, want) || e != api.OK {
			t.Fatal(g, ops, short, e)
		}
	}
}

func TestP29_1_NothingHandedInIsChanged(t *testing.T) {
	var d sample.Dice
	for range 300 {
		a, b := sample.RoomOf(d.Graph()), sample.RoomOf(d.Graph())
		ops, _ := drawn(&d, a, 10)
		ops = sample.Room(ops, api.Op{Id: "other"})
		wasA, wasB, wasOps := sample.AllOf(a), sample.AllOf(b), sample.All(ops)
		for _, by := range []func() ([]api.Op, api.Errno){
			func() ([]api.Op, api.Errno) { return Between(a, b) },
			func() ([]api.Op, api.Errno) { return Between(b, a) },
			func() ([]api.Op, api.Errno) { return Turned(a, ops...) },
			func() ([]api.Op, api.Errno) { return Short(a, ops...) },
		} {
			l, e := by()
			sample.Spoil(l)
			if e != api.OK || !reflect.DeepEqual(sample.AllOf(a), wasA) || !reflect.DeepEqual(sample.AllOf(b), wasB) || !slices.Equal(sample.All(ops), wasOps) {
				t.Fatal(a, b, ops, e)
			}
		}
	}
}

func TestP29_2_TurnedLeadsBackAndShortWhereTheOpsDo(t *testing.T) {
	var d sample.Dice
	for range 1000 {
		g := d.Graph()
		ops, behind := drawn(&d, g, d.Below(30))
		back, e := Turned(g, ops...)
		short, f := Short(g, ops...)
		if e != api.OK || f != api.OK {
			t.Fatal(e, f)
		}
		leads(t, behind, g, back, len(back))
		leads(t, g, behind, short, len(short))
	}
}

func TestP29_2_OfAGraphAndItself(t *testing.T) {
	var d sample.Dice
	for range 300 {
		g := d.Graph()
		if ops, e := Between(g, graph.Copy(g)); len(ops) != 0 || e != api.OK {
			t.Error(g, ops, e)
		}
		if ops, e := Turned(g); len(ops) != 0 || e != api.OK {
			t.Error(g, ops, e)
		}
		if ops, e := Short(g); len(ops) != 0 || e != api.OK {
			t.Error(g, ops, e)
		}
	}
}
