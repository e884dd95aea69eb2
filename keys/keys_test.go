package keys

import (
	"cmp"
	"reflect"
	"slices"
	"strings"
	"testing"

	"pleach/api"
	"pleach/elem"
	"pleach/sample"
)

const long = "abcdefghijkl" // as long as a name may be

func goodNames() []string { return []string{"a", "0", "-", "a-", "ab", "b", long} }

func badNames() []string {
	return []string{"", long + "m", "A", "a b", "a\x00", "\x00a", "\x00", "é", strings.Repeat("a", 100)}
}

func TestP31_1_Of(t *testing.T) {
	if s, e := Of("a", "x"); s != "\x61\x00\x78" || e != api.OK {
		t.Error(s, e)
	}
	for _, node := range goodNames() {
		for _, edge := range goodNames() {
			if s, e := Of(node, edge); s != node+"\x00"+edge || e != api.OK {
				t.Errorf("%q %v", s, e)
			}
		}
	}
	for _, bad := range badNames() {
		for _, other := range append(goodNames(), badNames()...) {
			for _, l := range [][2]string{{bad, other}, {other, bad}} {
				if s, e := Of(l[0], l[1]); s != "" || e != api.ErrArg {
					t.Errorf("%q: %q %v", l, s, e)
				}
			}
		}
	}
}

func TestP31_1_Begin(t *testing.T) {
	for _, node := range append(goodNames(), badNames()...) {
		if s := Begin(node); s != node+"\x00" {
			t.Errorf("%q", s)
		}
	}
}

func TestP31_1_Parted(t *testing.T) {
	for _, node := range goodNames() {
		for _, edge := range goodNames() {
			if n, x, e := Parted(node + "\x00" + edge); n != node || x != edge || e != api.OK {
				t.Errorf("%q %q %v", n, x, e)
			}
		}
	}
	bad := []string{"", "a", "ax", "\x00", "a\x00", "\x00x", "a\x00\x00x", "a\x00x\x00", "a\x00x\x00y", "\x00a\x00x", "a\x01x", "A\x00x", "a\x00X", "a" + long + "\x00x", "a\x00x" + long}
	for _, s := range bad {
		if n, x, e := Parted(s); n != "" || x != "" || e != api.ErrForm {
			t.Errorf("%q: %q %q %v", s, n, x, e)
		}
	}
}

// shuffled is a list in another order.
func shuffled[T any](d *sample.Dice, l []T) []T {
	l = slices.Clone(l)
	for i := range l {
		k := d.Below(i + 1)
		l[i], l[k] = l[k], l[i]
	}
	return l
}

// laid is entries as a map has them.
func laid(l []api.Entry) []api.Entry {
	l = slices.Clone(l)
	slices.SortFunc(l, func(a, b api.Entry) int { return cmp.Compare(a.Key, b.Key) })
	return l
}

// maps is the four maps of a graph that may be, by the words alone.
func maps(g api.Graph) [4][]api.Entry {
	var l [4][]api.Entry
	for _, n := range g.Nodes {
		s, _ := elem.PutNode(n)
		l[0] = append(l[0], api.Entry{Key: n.Id, Value: s})
	}
	for _, x := range g.Edges {
		s, _ := elem.PutEdge(x)
		l[1] = append(l[1], api.Entry{Key: x.Id, Value: s})
		l[2] = append(l[2], api.Entry{Key: x.From + "\x00" + x.Id, Value: x.To})
		l[3] = append(l[3], api.Entry{Key: x.To + "\x00" + x.Id, Value: x.From})
	}
	for i := range l {
		l[i] = laid(l[i])
	}
	return l
}

// alike tells whether two rows of maps are the same; nil and empty ones are.
func alike(a, b [4][]api.Entry) bool {
	return slices.EqualFunc(a[:], b[:], func(x, y []api.Entry) bool { return slices.Equal(x, y) })
}

// four is what Nodes, Edges, Out and In tell.
func four(nodes []api.Node, edges []api.Edge) ([4][]api.Entry, [4]api.Errno) {
	var l [4][]api.Entry
	var e [4]api.Errno
	l[0], e[0] = Nodes(nodes...)
	l[1], e[1] = Edges(edges...)
	l[2], e[2] = Out(edges...)
	l[3], e[3] = In(edges...)
	return l, e
}

func TestP31_2_TheMapsOfAGraph(t *testing.T) {
	var d sample.Dice
	for range 500 {
		g := d.Graph()
		mixed := api.Graph{Nodes: shuffled(&d, g.Nodes), Edges: shuffled(&d, g.Edges)} // by their keys, however they came
		for _, g := range []api.Graph{g, mixed} {
			want := maps(g)
			if l, e := four(g.Nodes, g.Edges); !alike(l, want) || e != [4]api.Errno{} {
				t.Fatal(g, l, e)
			}
			if l, e := Lay(g); !alike(l, want) || e != api.OK {
				t.Fatal(g, l, e)
			}
		}
	}
}

func TestP31_2_KeysOfNamesThatBeginAlike(t *testing.T) {
	edges := []api.Edge{
		{Id: "e", From: "ab", To: "a"},
		{Id: "f", From: "a-", To: "a0"},
		{Id: "e0", From: "a", To: "ab"},
		{Id: "e-", From: "a", To: "a"},
	}
	out := []api.Entry{{Key: "a\x00e-", Value: "a"}, {Key: "a\x00e0", Value: "ab"}, {Key: "a-\x00f", Value: "a0"}, {Key: "ab\x00e", Value: "a"}}
	in := []api.Entry{{Key: "a\x00e", Value: "ab"}, {Key: "a\x00e-", Value: "a"}, {Key: "a0\x00f", Value: "a-"}, {Key: "ab\x00e0", Value: "a"}}
	if l, e := Out(edges...); !slices.Equal(l, out) || e != api.OK {
		t.Errorf("%q %v", l, e)
	}
	if l, e := In(edges...); !slices.Equal(l, in) || e != api.OK {
		t.Errorf("%q %v", l, e)
	}
}

func TestP31_2_Nothing(t *testing.T) {
	if l, e := four(nil, nil); !alike(l, [4][]api.Entry{}) || e != [4]api.Errno{} {
		t.Error(l, e)
	}
	if l, e := Lay(api.Graph{Nodes: []api.Node{}, Edges: []api.Edge{}}); !alike(l, [4][]api.Entry{}) || e != api.OK {
		t.Error(l, e)
	}
}

// badNodes may not be, for one cause each.
func badNodes() []api.Node {
	return []api.Node{
		{},
		{Id: "A"},
		{Id: "a", Labels: []string{"b", "a"}},
		{Id: "a", Labels: strings.Split("a b c d e f g h i", " ")},
		{Id: "a", Props: make([]api.Prop, 9)},
		{Id: "a", Props: []api.Prop{{Key: "k"}}},
	}
}

func badEdges() []api.Edge {
	l := []api.Edge{{From: "a", To: "a"}, {Id: "a", To: "a"}, {Id: "a", From: "a"}, {Id: "A", From: "a", To: "a"}, {Id: "a", From: "A", To: "a"}, {Id: "a", From: "a", To: "A"}}
	for _, n := range badNodes()[2:] {
		l = append(l, api.Edge{Id: "a", From: "a", To: "a", Labels: n.Labels, Props: n.Props})
	}
	return l
}

func TestP31_2_PutNodesError(t *testing.T) {
	good := api.Node{Id: "b"}
	for _, bad := range badNodes() {
		_, want := elem.PutNode(bad)
		if want == api.OK {
			t.Fatal(bad)
		}
		for _, l := range [][]api.Node{{bad}, {good, bad}, {bad, good}, {good, bad, {Id: "B"}}, {bad, {}}} {
			if l, e := Nodes(l...); l != nil || e != want {
				t.Error(bad, l, e)
			}
			if m, e := Lay(api.Graph{Nodes: l, Edges: badEdges()}); !reflect.DeepEqual(m, [4][]api.Entry{}) || e != want {
				t.Error(bad, m, e)
			}
		}
	}
}

func TestP31_2_PutEdgesError(t *testing.T) {
	good := api.Edge{Id: "b", From: "a", To: "a"}
	for _, bad := range badEdges() {
		_, want := elem.PutEdge(bad)
		if want == api.OK {
			t.Fatal(bad)
		}
		for _, l := range [][]api.Edge{{bad}, {good, bad}, {bad, good}, {good, bad, {}}, {bad, {Id: "B"}}} {
			if l, e := Edges(l...); l != nil || e != want {
				t.Error(bad, l, e)
			}
			if m, e := Lay(api.Graph{Nodes: []api.Node{{Id: "a"}}, Edges: l}); !reflect.DeepEqual(m, [4][]api.Entry{}) || e != want {
				t.Error(bad, m, e)
			}
		}
	}
}

// Out and In look at the two names of the key alone.
func TestP31_2_OutsAndInsError(t *testing.T) {
	good := api.Edge{Id: "b", From: "a", To: "a"}
	for _, s := range badNames() {
		for _, c := range []struct {
			x       api.Edge
			out, in bool // whether it is in the key
		}{
			{api.Edge{Id: s, From: "a", To: "c"}, true, true},
			{api.Edge{Id: "e", From: s, To: "c"}, true, false},
			{api.Edge{Id: "e", From: "a", To: s}, false, true},
		} {
			for _, l := range [][]api.Edge{{c.x, good}, {good, c.x}} {
				out, e := Out(l...)
				if c.out && (out != nil || e != api.ErrArg) || !c.out && (len(out) != 2 || out[1] != api.Entry{Key: "a\x00e", Value: s} || e != api.OK) {
					t.Errorf("%v %q %v", l, out, e)
				}
				in, e := In(l...)
				if c.in && (in != nil || e != api.ErrArg) || !c.in && (len(in) != 2 || in[1] != api.Entry{Key: "c\x00e", Value: s} || e != api.OK) {
					t.Errorf("%v %q %v", l, in, e)
				}
			}
		}
	}
	odd := api.Edge{Id: "e", From: "a", To: "c", Labels: []string{"B", "A"}, Props: make([]api.Prop, 9)}
	if l, e := Out(odd); len(l) != 1 || e != api.OK {
		t.Error(l, e)
	}
	if l, e := In(odd); len(l) != 1 || e != api.OK {
		t.Error(l, e)
	}
}

// Of Ids that come twice nothing is said, but that the calls end, and that each time they answer the same.
func TestP31_2_IdsThatComeTwice(t *testing.T) {
	nodes := []api.Node{{Id: "b"}, {Id: "a", Labels: []string{"x"}}, {Id: "b", Labels: []string{"x"}}, {Id: "a"}}
	edges := []api.Edge{{Id: "b", From: "a", To: "a"}, {Id: "a", From: "a", To: "b"}, {Id: "b", From: "a", To: "a"}, {Id: "a", From: "a", To: "b", Labels: []string{"x"}}}
	first, _ := four(nodes, edges)
	for range 20 {
		if l, e := four(nodes, edges); !alike(l, first) || e != [4]api.Errno{} {
			t.Fatal(l, e)
		}
	}
	if _, e := Lay(api.Graph{Nodes: nodes, Edges: edges}); e != api.OK {
		t.Error(e)
	}
}

func TestP31_3_TakeNodes(t *testing.T) {
	var d sample.Dice
	for range 200 {
		g := d.Graph()
		nodes := shuffled(&d, g.Nodes) // in the order of the entries, whichever that is
		var l []api.Entry
		for _, n := range nodes {
			s, _ := elem.PutNode(n)
			l = append(l, api.Entry{Key: n.Id, Value: s})
		}
		got, e := TakeNodes(l...)
		if !same(api.Graph{Nodes: got}, api.Graph{Nodes: nodes}) || e != api.OK {
			t.Fatal(nodes, got, e)
		}
		for i := range l {
			for _, bad := range []api.Entry{{Key: "A", Value: l[i].Value}, {Key: l[i].Key}, {Key: l[i].Key, Value: l[i].Value + "\x00"}, {Key: l[i].Key, Value: "\x01"}} {
				spoilt := slices.Clone(l)
				spoilt[i] = bad
				if got, e := TakeNodes(spoilt...); got != nil || e != api.ErrForm {
					t.Fatal(spoilt, got, e)
				}
			}
		}
	}
	if l, e := TakeNodes(); len(l) != 0 || e != api.OK {
		t.Error(l, e)
	}
	twice := []api.Entry{{Key: "a", Value: "\x00\x00"}, {Key: "a", Value: "\x00\x00"}}
	if l, e := TakeNodes(twice...); len(l) != 2 || e != api.OK {
		t.Error(l, e)
	}
}

func TestP31_3_TakeEdges(t *testing.T) {
	var d sample.Dice
	for range 200 {
		g := d.Graph()
		edges := shuffled(&d, g.Edges)
		var l []api.Entry
		for _, x := range edges {
			s, _ := elem.PutEdge(x)
			l = append(l, api.Entry{Key: x.Id, Value: s})
		}
		got, e := TakeEdges(l...)
		if !same(api.Graph{Edges: got}, api.Graph{Edges: edges}) || e != api.OK {
			t.Fatal(edges, got, e)
		}
		for i := range l {
			for _, bad := range []api.Entry{{Key: "A", Value: l[i].Value}, {Key: l[i].Key}, {Key: l[i].Key, Value: l[i].Value + "\x00"}, {Key: l[i].Key, Value: "\x00\x00"}} {
				spoilt := slices.Clone(l)
				spoilt[i] = bad
				if got, e := TakeEdges(spoilt...); got != nil || e != api.ErrForm {
					t.Fatal(spoilt, got, e)
				}
			}
		}
	}
	if l, e := TakeEdges(); len(l) != 0 || e != api.OK {
		t.Error(l, e)
	}
}

// same tells whether two graphs are the same; nil and empty lists are.
func same(a, b api.Graph) bool { return reflect.DeepEqual(sample.Plain(a), sample.Plain(b)) }

func TestP31_4_NodesAndEdgesComeBack(t *testing.T) {
	var d sample.Dice
	for range 500 {
		g := d.Graph()
		l, e := Lay(g)
		nodes, ofNodes := TakeNodes(l[0]...)
		edges, ofEdges := TakeEdges(l[1]...)
		if !same(api.Graph{Nodes: nodes, Edges: edges}, g) || cmp.Or(e, ofNodes, ofEdges) != api.OK {
			t.Fatal(g, nodes, edges)
		}
		for i := range g.Edges { // and the other two maps tell their ends
			for k, key := range []string{l[2][i].Key, l[3][i].Key} {
				node, id, e := Parted(key)
				at := slices.IndexFunc(g.Edges, func(x api.Edge) bool { return x.Id == id })
				if e != api.OK || at < 0 || k == 0 && g.Edges[at].From != node || k == 1 && g.Edges[at].To != node {
					t.Fatalf("%v %q", g, key)
				}
			}
		}
	}
}

func TestP31_4_NothingHandedInIsChanged(t *testing.T) {
	var d sample.Dice
	for range 100 {
		g := d.Graph()
		slices.Reverse(g.Nodes)
		slices.Reverse(g.Edges)
		g = sample.RoomOf(g)
		was := sample.AllOf(g)
		maps, _ := Lay(g)
		again, _ := four(g.Nodes, g.Edges)
		for i := range maps {
			maps[i] = sample.Room(maps[i], api.Entry{Key: "other"})
			sample.Spoil(again[i])
		}
		nodes, _ := TakeNodes(maps[0]...)
		edges, _ := TakeEdges(maps[1]...)
		sample.SpoilOf(api.Graph{Nodes: nodes, Edges: edges})
		again, _ = four(g.Nodes, g.Edges)
		for i := range maps {
			if l := sample.All(maps[i]); !slices.Equal(l[:len(maps[i])], again[i]) || l[len(maps[i])].Key != "other" {
				t.Fatal(i, l)
			}
		}
		if !reflect.DeepEqual(sample.AllOf(g), was) {
			t.Fatal(g)
		}
	}
}
