package paths

import (
	"reflect"
	"slices"
	"strconv"
	"strings"
	"testing"

	"pleach/api"
	"pleach/sample"
)

// laid is a graph of nodes, and edges, each of its Id and its two nodes.
func laid(nodes string, edges ...string) api.Graph {
	var g api.Graph
	for _, id := range strings.Fields(nodes) {
		g.Nodes = append(g.Nodes, api.Node{Id: id})
	}
	for _, s := range edges {
		f := strings.Split(s, " ")
		g.Edges = append(g.Edges, api.Edge{Id: f[0], From: f[1], To: f[2]})
	}
	return g
}

// bad are graphs that may not be, each with an error of its own.
func bad() map[api.Errno]api.Graph {
	return map[api.Errno]api.Graph{
		api.ErrArg:   laid("A"),
		api.ErrOrder: laid("b a"),
		api.ErrNone:  laid("a", "e a b"),
		api.ErrLimit: {Nodes: make([]api.Node, 501)},
	}
}

// ids are those of a drawn graph's nodes, and others.
func ids() []string { return []string{"", "A", "e0", "n0", "n1", "n2", "n3", "n4", "n5", "z"} }

func isNode(g api.Graph, id string) bool {
	return slices.ContainsFunc(g.Nodes, func(n api.Node) bool { return n.Id == id })
}

// far is how many edges there are at least on the way from a node to each one that is reached.
func far(g api.Graph, id string) map[string]int {
	m := map[string]int{id: 0}
	for steps := 1; steps <= len(g.Nodes); steps++ {
		for _, x := range g.Edges {
			at, is := m[x.From]
			if _, met := m[x.To]; is && at == steps-1 && !met {
				m[x.To] = steps
			}
		}
	}
	return m
}

// reached is Reach by the words: hop by hop, the edges of each by their Ids.
func reached(g api.Graph, id string) []api.Hop {
	hops := []api.Hop{{Id: id}}
	for i := 0; i < len(hops); i++ {
		for _, x := range g.Edges {
			if x.From == hops[i].Id && !slices.ContainsFunc(hops, func(h api.Hop) bool { return h.Id == x.To }) {
				hops = append(hops, api.Hop{Id: x.To, Edge: x.Id, Far: hops[i].Far + 1})
			}
		}
	}
	return hops
}

func TestP30_1_Reach(t *testing.T) {
	var d sample.Dice
	for range 500 {
		g := d.Graph()
		for _, id := range ids() {
			hops, e := Reach(g, id)
			if !isNode(g, id) {
				if len(hops) != 0 || e != api.ErrNone {
					t.Fatal(g, id, hops, e)
				}
				continue
			}
			if !slices.Equal(hops, reached(g, id)) || e != api.OK {
				t.Fatal(g, id, hops, e)
			}
		}
	}
}

func TestP30_1_ReachHopByHop(t *testing.T) {
	g := laid("a b c d e f", "a a c", "b a b", "c b d", "d c d", "e c e", "f d a", "g a a", "h a c", "i f a")
	for _, c := range []struct {
		from string
		want []api.Hop
	}{
		{"a", []api.Hop{{Id: "a"}, {Id: "c", Edge: "a", Far: 1}, {Id: "b", Edge: "b", Far: 1}, {Id: "d", Edge: "d", Far: 2}, {Id: "e", Edge: "e", Far: 2}}},
		{"b", []api.Hop{{Id: "b"}, {Id: "d", Edge: "c", Far: 1}, {Id: "a", Edge: "f", Far: 2}, {Id: "c", Edge: "a", Far: 3}, {Id: "e", Edge: "e", Far: 4}}},
		{"e", []api.Hop{{Id: "e"}}},
		{"f", []api.Hop{{Id: "f"}, {Id: "a", Edge: "i", Far: 1}, {Id: "c", Edge: "a", Far: 2}, {Id: "b", Edge: "b", Far: 2}, {Id: "d", Edge: "d", Far: 3}, {Id: "e", Edge: "e", Far: 3}}},
	} {
		if hops, e := Reach(g, c.from); !slices.Equal(hops, c.want) || e != api.OK {
			t.Error(c.from, hops, e)
		}
	}
}

// walked is the node to which edges lead, one behind the other, and whether they do.
func walked(g api.Graph, from string, edges []string) (string, bool) {
	for _, id := range edges {
		at := slices.IndexFunc(g.Edges, func(x api.Edge) bool { return x.Id == id })
		if at < 0 || g.Edges[at].From != from {
			return "", false
		}
		from = g.Edges[at].To
	}
	return from, true
}

// along is the edges by which hops lead to a node.
func along(g api.Graph, hops []api.Hop, to string) []string {
	var edges []string
	for {
		h := hops[slices.IndexFunc(hops, func(h api.Hop) bool { return h.Id == to })]
		if h.Far == 0 {
			return edges
		}
		edges = append([]string{h.Edge}, edges...)
		to = g.Edges[slices.IndexFunc(g.Edges, func(x api.Edge) bool { return x.Id == h.Edge })].From
	}
}

func TestP30_1_Path(t *testing.T) {
	var d sample.Dice
	for range 500 {
		g := d.Graph()
		for _, from := range ids() {
			for _, to := range ids() {
				edges, e := Path(g, from, to)
				if _, is := far(g, from)[to]; !is || !isNode(g, from) {
					if len(edges) != 0 || e != api.ErrNone {
						t.Fatal(g, from, to, edges, e)
					}
					continue
				}
				if !slices.Equal(edges, along(g, reached(g, from), to)) || e != api.OK {
					t.Fatal(g, from, to, edges, e)
				}
			}
		}
	}
}

func TestP30_1_PathEdgeByEdge(t *testing.T) {
	g := laid("a b c d", "a a a", "b a b", "c b c", "d c d", "e d d", "f a b", "g b a")
	for _, c := range []struct {
		from, to string
		want     []string
		e        api.Errno
	}{
		{"a", "a", nil, api.OK}, // though an edge leads from it to itself
		{"a", "b", []string{"b"}, api.OK},
		{"a", "d", []string{"b", "c", "d"}, api.OK},
		{"b", "a", []string{"g"}, api.OK},
		{"d", "d", nil, api.OK},
		{"d", "a", nil, api.ErrNone},
		{"c", "b", nil, api.ErrNone},
		{"a", "e", nil, api.ErrNone},
		{"e", "a", nil, api.ErrNone},
		{"e", "e", nil, api.ErrNone}, // that is an edge
		{"", "", nil, api.ErrNone},
	} {
		if edges, e := Path(g, c.from, c.to); !slices.Equal(edges, c.want) || e != c.e {
			t.Error(c, edges, e)
		}
	}
}

func TestP30_1_ChecksErrors(t *testing.T) {
	for want, g := range bad() {
		for _, id := range []string{"a", "b", "z", ""} {
			if hops, e := Reach(g, id); len(hops) != 0 || e != want {
				t.Error(id, hops, e, want)
			}
			if edges, e := Path(g, id, id); len(edges) != 0 || e != want {
				t.Error(id, edges, e, want)
			}
			if edges, e := Path(g, id, "b"); len(edges) != 0 || e != want {
				t.Error(id, edges, e, want)
			}
		}
	}
	if hops, e := Reach(api.Graph{}, "a"); len(hops) != 0 || e != api.ErrNone {
		t.Error(hops, e)
	}
}

func TestP30_2_Degree(t *testing.T) {
	graphs := []api.Graph{ // of any graph
		laid("", "e a b"), laid("b a", "f a b", "e a a", "a b a"), laid("", "A B ", "A B C", "A  C"), {Edges: make([]api.Edge, 1500)},
	}
	var d sample.Dice
	for range 300 {
		graphs = append(graphs, d.Graph())
	}
	for _, g := range graphs {
		for _, id := range append(ids(), "a", "b", "B", "C") {
			wantOut, wantIn := 0, 0
			for _, x := range g.Edges {
				wantOut += strings.Count("\x01"+x.From+"\x01", "\x01"+id+"\x01")
				wantIn += strings.Count("\x01"+x.To+"\x01", "\x01"+id+"\x01")
			}
			if out, in := Degree(g, id); out != wantOut || in != wantIn {
				t.Fatal(g, id, out, in)
			}
		}
	}
	if out, in := Degree(laid("a", "e a a"), "a"); out != 1 || in != 1 {
		t.Error(out, in)
	}
}

// eitherWay is a graph with all its edges both ways.
func eitherWay(g api.Graph) api.Graph {
	both := api.Graph{Nodes: g.Nodes}
	for _, x := range g.Edges {
		both.Edges = append(both.Edges, x, api.Edge{From: x.To, To: x.From})
	}
	return both
}

func TestP30_2_Parts(t *testing.T) {
	var d sample.Dice
	for range 500 {
		g := d.Graph()
		var want [][]string
		met := map[string]bool{}
		for _, n := range g.Nodes {
			if met[n.Id] {
				continue
			}
			var part []string
			m := far(eitherWay(g), n.Id)
			for _, other := range g.Nodes {
				if _, is := m[other.Id]; is {
					part = append(part, other.Id)
					met[other.Id] = true
				}
			}
			want = append(want, part)
		}
		if parts, e := Parts(g); !slices.EqualFunc(parts, want, slices.Equal) || e != api.OK {
			t.Fatal(g, parts, e)
		}
	}
}

func TestP30_2_PartsAsTheyStand(t *testing.T) {
	for _, c := range []struct {
		g    api.Graph
		want [][]string
	}{
		{api.Graph{}, nil},
		{laid("a"), [][]string{{"a"}}},
		{laid("a b c"), [][]string{{"a"}, {"b"}, {"c"}}},
		{laid("a b c", "e a a", "f c b"), [][]string{{"a"}, {"b", "c"}}},
		{laid("a b c d e", "e e a", "f b d", "g e c"), [][]string{{"a", "c", "e"}, {"b", "d"}}},
		{laid("a b c d", "e b d", "f c d", "g a d"), [][]string{{"a", "b", "c", "d"}}},
	} {
		if parts, e := Parts(c.g); !slices.EqualFunc(parts, c.want, slices.Equal) || e != api.OK {
			t.Error(c.g, parts, e)
		}
	}
}

// The parts are lists of their own.
func TestP30_2_PartsAreApart(t *testing.T) {
	g := laid("a b c d", "e a b", "f c d")
	parts, _ := Parts(g)
	sample.Spoil(parts[0])
	if !slices.Equal(parts[1], []string{"c", "d"}) || !reflect.DeepEqual(g, laid("a b c d", "e a b", "f c d")) {
		t.Error(parts, g)
	}
}

func TestP30_2_Cycle(t *testing.T) {
	var d sample.Dice
	times := 0
	for range 1000 {
		g := d.Graph()
		want := false
		for _, x := range g.Edges { // behind one edge the way leads back to where it begins
			if _, is := far(g, x.To)[x.From]; is {
				want = true
			}
		}
		if is, e := Cycle(g); is != want || e != api.OK {
			t.Fatal(g, is, e)
		}
		if want {
			times++
		}
	}
	if times < 100 || times > 900 {
		t.Error(times)
	}
}

func TestP30_2_CyclesAsTheyAre(t *testing.T) {
	for _, c := range []struct {
		g    api.Graph
		want bool
	}{
		{api.Graph{}, false},
		{laid("a"), false},
		{laid("a", "e a a"), true},
		{laid("a b", "e a b"), false},
		{laid("a b", "e a b", "f a b"), false}, // either way would lead back, along the other one
		{laid("a b", "e a b", "f b a"), true},
		{laid("a b c", "e a b", "f b c", "g a c"), false},
		{laid("a b c d e", "e a b", "f b c", "g c d", "h d b", "i d e"), true},
		{laid("a b c d", "e d c", "f c b", "g b a"), false},
	} {
		if is, e := Cycle(c.g); is != c.want || e != api.OK {
			t.Error(c.g, is, e)
		}
	}
}

func TestP30_2_ChecksErrors(t *testing.T) {
	for want, g := range bad() {
		if parts, e := Parts(g); len(parts) != 0 || e != want {
			t.Error(parts, e, want)
		}
		if is, e := Cycle(g); is || e != want {
			t.Error(is, e, want)
		}
	}
	g := laid("b a", "e a a") // it has one, but may not be
	if is, e := Cycle(g); is || e != api.ErrOrder {
		t.Error(is, e)
	}
}

func TestP30_3_PathIsShort(t *testing.T) {
	var d sample.Dice
	for range 500 {
		g := d.Graph()
		for _, n := range g.Nodes {
			m := far(g, n.Id)
			hops, _ := Reach(g, n.Id)
			if len(hops) != len(m) {
				t.Fatal(g, hops)
			}
			for _, h := range hops {
				if h.Far != m[h.Id] {
					t.Fatal(g, h)
				}
				edges, e := Path(g, n.Id, h.Id)
				if to, is := walked(g, n.Id, edges); to != h.Id || !is || len(edges) != m[h.Id] || e != api.OK {
					t.Fatal(g, n, h, edges, e)
				}
			}
		}
	}
}

func TestP30_3_LongWays(t *testing.T) {
	var g api.Graph // from each node to the next one, and a few short ways
	for i := range 500 {
		g.Nodes = append(g.Nodes, api.Node{Id: strconv.Itoa(1000 + i)})
	}
	for i := range 499 {
		g.Edges = append(g.Edges, api.Edge{Id: "e" + strconv.Itoa(1000+i), From: strconv.Itoa(1000 + i), To: strconv.Itoa(1001 + i)})
	}
	if edges, e := Path(g, "1000", "1499"); len(edges) != 499 || edges[0] != "e1000" || edges[498] != "e1498" || e != api.OK {
		t.Error(len(edges), e)
	}
	g.Edges = append(g.Edges, api.Edge{Id: "f", From: "1100", To: "1400"}, api.Edge{Id: "g", From: "1450", To: "1000"})
	if edges, e := Path(g, "1000", "1499"); len(edges) != 200 || edges[100] != "f" || e != api.OK {
		t.Error(len(edges), e)
	}
	if edges, e := Path(g, "1450", "1440"); len(edges) != 142 || edges[0] != "g" || e != api.OK {
		t.Error(len(edges), e)
	}
	if is, e := Cycle(g); !is || e != api.OK {
		t.Error(is, e)
	}
	if parts, e := Parts(g); len(parts) != 1 || len(parts[0]) != 500 || e != api.OK {
		t.Error(len(parts), e)
	}
}

func TestP30_3_NothingHandedInIsChanged(t *testing.T) {
	var d sample.Dice
	for range 100 {
		g := sample.RoomOf(d.Graph())
		was := sample.AllOf(g)
		for _, id := range ids() {
			hops, _ := Reach(g, id)
			sample.Spoil(hops)
			edges, _ := Path(g, "n0", id)
			sample.Spoil(edges)
			Degree(g, id)
		}
		parts, _ := Parts(g)
		for _, part := range parts {
			sample.Spoil(part)
		}
		Cycle(g)
		if !reflect.DeepEqual(sample.AllOf(g), was) {
			t.Fatal(g)
		}
	}
}
