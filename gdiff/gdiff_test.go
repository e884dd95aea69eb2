package gdiff

import (
	"fmt"
	"math"
	"reflect"
	"slices"
	"strconv"
	"strings"
	"testing"

	"pleach/api"
	"pleach/elem"
	"pleach/facts"
	"pleach/graph"
	"pleach/hand"
	"pleach/keys"
	"pleach/quad"
	"pleach/sample"
	"pleach/sha"
	"pleach/shelf"
	"pleach/three"
)

// same tells whether two graphs are the same; nil and empty lists are.
func same(a, b api.Graph) bool { return reflect.DeepEqual(sample.Plain(a), sample.Plain(b)) }

// write stores a graph.
func write(t *testing.T, s *shelf.Shelf, g api.Graph) string {
	t.Helper()
	name, e := quad.Write(s, g)
	if e != api.OK {
		t.Fatal(g, e)
	}
	return name
}

// many is a graph of so many nodes and edges.
func many(nodes, edges int) api.Graph {
	var g api.Graph
	for i := range nodes {
		g.Nodes = append(g.Nodes, api.Node{Id: fmt.Sprint("n", 1000+i), Labels: []string{"l0", "l1"}[:i%3]})
	}
	for i := range edges {
		g.Edges = append(g.Edges, api.Edge{Id: fmt.Sprint("e", 1000+i), From: g.Nodes[i*7%nodes].Id, To: g.Nodes[i*i%nodes].Id, Labels: []string{"l0", "l1"}[:i%3]})
	}
	return g
}

// op is an op; more is an edge's two nodes, or a key, and a value that is a number.
func op(kind int, id string, more ...string) api.Op {
	o := api.Op{Kind: kind, Id: id}
	switch {
	case kind == api.OpEdge:
		o.From, o.To = more[0], more[1]
	case len(more) > 0:
		o.Key, o.Value.Kind = more[0], api.VInt
		if len(more) > 1 {
			o.Value.Num, _ = strconv.Atoi(more[1])
		}
	}
	return o
}

// behind is a graph behind ops that it lets be.
func behind(t *testing.T, g api.Graph, ops ...api.Op) api.Graph {
	t.Helper()
	g, at, e := graph.Apply(g, ops...)
	if e != api.OK {
		t.Fatal(at, e)
	}
	return g
}

// drawn is a graph behind some ops: those that it lets be.
func drawn(d *sample.Dice, g api.Graph, n int) api.Graph {
	for range n {
		if next, _, e := graph.Apply(g, d.Op()); e == api.OK {
			g = next
		}
	}
	return g
}

func TestP34_1_Compare(t *testing.T) {
	var l []api.Change // as they stand
	for _, kind := range []int{math.MinInt, -1, 0, 1, 2, 6, 7, math.MaxInt} {
		for _, id := range []string{"", "\x00", "a", "aa", "b", "\xff"} {
			for _, key := range []string{"", "A", "a", "a-", "b"} {
				l = append(l, api.Change{Kind: kind, Id: id, Key: key})
			}
		}
	}
	for i, a := range l {
		for k, b := range l {
			a.Was, a.Old, b.Is, b.New = k%2 == 0, strconv.Itoa(k), i%2 == 0, strconv.Itoa(i) // they play no part
			want := 0
			if i < k {
				want = -1
			} else if i > k {
				want = 1
			}
			if got := Compare(a, b); got != want {
				t.Fatal(a, b, got)
			}
		}
	}
}

// told holds Diff of two stored graphs against facts' Diff of what they are.
func told(t *testing.T, s *shelf.Shelf, a, b string, was, is api.Graph) []api.Change {
	t.Helper()
	want := facts.Diff(facts.Of(was), facts.Of(is))
	got, e := Diff(s, a, b)
	if !slices.Equal(got, want) || e != api.OK {
		t.Fatal(was, is, got, e)
	}
	if !slices.IsSortedFunc(got, Compare) {
		t.Fatal(got)
	}
	return got
}

func TestP34_1_DiffOfGraphs(t *testing.T) {
	var d sample.Dice
	s := shelf.New()
	for range 400 {
		was, is := d.Graph(), d.Graph()
		told(t, s, write(t, s, was), write(t, s, is), was, is)
		near := drawn(&d, was, 4)
		told(t, s, write(t, s, was), write(t, s, near), was, near)
		told(t, s, write(t, s, was), write(t, s, api.Graph{}), was, api.Graph{})
		told(t, s, write(t, s, api.Graph{}), write(t, s, is), api.Graph{}, is)
	}
}

// base is a few nodes and edges of which each op in TestP34_1_OneByOne changes something.
func base(t *testing.T) api.Graph {
	t.Helper()
	return behind(t, api.Graph{}, op(api.OpNode, "a"), op(api.OpNode, "b"), op(api.OpNode, "c"),
		op(api.OpEdge, "e", "a", "b"), op(api.OpEdge, "f", "b", "b"),
		op(api.OpLabel, "a", "x"), op(api.OpMark, "e", "x"), op(api.OpSet, "a", "k", "1"), op(api.OpSetEdge, "e", "k", "1"))
}

func TestP34_1_OneByOne(t *testing.T) {
	const one, two = "\x02\x02", "\x02\x04"
	for _, c := range []struct {
		ops  []api.Op
		want []api.Change
	}{
		{nil, nil},
		{[]api.Op{op(api.OpSet, "a", "k", "1")}, nil},
		{[]api.Op{op(api.OpSet, "a", "k", "2")}, []api.Change{{Kind: api.FProp, Id: "a", Key: "k", Was: true, Is: true, Old: one, New: two}}},
		{[]api.Op{op(api.OpUnset, "a", "k")}, []api.Change{{Kind: api.FProp, Id: "a", Key: "k", Was: true, Old: one}}},
		{[]api.Op{op(api.OpSet, "b", "k", "2")}, []api.Change{{Kind: api.FProp, Id: "b", Key: "k", Is: true, New: two}}},
		{[]api.Op{op(api.OpUnlabel, "a", "x"), op(api.OpLabel, "a", "y")}, []api.Change{{Kind: api.FLabel, Id: "a", Key: "x", Was: true}, {Kind: api.FLabel, Id: "a", Key: "y", Is: true}}},
		{[]api.Op{op(api.OpNode, "d"), op(api.OpDropNode, "c")}, []api.Change{{Kind: api.FNode, Id: "c", Was: true}, {Kind: api.FNode, Id: "d", Is: true}}},
		{[]api.Op{op(api.OpMark, "f", "x")}, []api.Change{{Kind: api.FMark, Id: "f", Key: "x", Is: true}}},
		{[]api.Op{op(api.OpSetEdge, "e", "k", "2")}, []api.Change{{Kind: api.FAttr, Id: "e", Key: "k", Was: true, Is: true, Old: one, New: two}}},
		{[]api.Op{op(api.OpDropEdge, "f")}, []api.Change{{Kind: api.FEdge, Id: "f", Was: true, Old: "b\x00b"}}},
		{[]api.Op{op(api.OpEdge, "g", "c", "a")}, []api.Change{{Kind: api.FEdge, Id: "g", Is: true, New: "c\x00a"}}},
		{[]api.Op{op(api.OpDropEdge, "f"), op(api.OpEdge, "f", "c", "b")}, []api.Change{{Kind: api.FEdge, Id: "f", Was: true, Is: true, Old: "b\x00b", New: "c\x00b"}}},
		{[]api.Op{op(api.OpDropEdge, "e"), op(api.OpEdge, "e", "a", "b")}, []api.Change{{Kind: api.FMark, Id: "e", Key: "x", Was: true}, {Kind: api.FAttr, Id: "e", Key: "k", Was: true, Old: one}}},
		{[]api.Op{op(api.OpDropEdge, "e"), op(api.OpDropEdge, "f"), op(api.OpDropNode, "b")}, []api.Change{
			{Kind: api.FNode, Id: "b", Was: true}, {Kind: api.FEdge, Id: "e", Was: true, Old: "a\x00b"}, {Kind: api.FEdge, Id: "f", Was: true, Old: "b\x00b"},
			{Kind: api.FMark, Id: "e", Key: "x", Was: true}, {Kind: api.FAttr, Id: "e", Key: "k", Was: true, Old: one},
		}},
		{[]api.Op{op(api.OpNode, "d"), op(api.OpEdge, "d", "d", "a"), op(api.OpSet, "a", "k", "2")}, []api.Change{
			{Kind: api.FNode, Id: "d", Is: true}, {Kind: api.FProp, Id: "a", Key: "k", Was: true, Is: true, Old: one, New: two}, {Kind: api.FEdge, Id: "d", Is: true, New: "d\x00a"},
		}},
	} {
		s := shelf.New()
		was := base(t)
		is := behind(t, was, c.ops...)
		a, b := write(t, s, was), write(t, s, is)
		if got := told(t, s, a, b, was, is); !slices.Equal(got, c.want) {
			t.Error(c.ops, got)
		}
		told(t, s, b, a, is, was)
	}
}

// roots is those of a stored graph.
func roots(t *testing.T, s *shelf.Shelf, name string) api.Roots {
	t.Helper()
	r, e := quad.Load(s, name)
	if e != api.OK {
		t.Fatal(e)
	}
	return r
}

// What both have need not be there, nor need the edges by their nodes.
func TestP34_1_WithoutALookAtWhatBothHave(t *testing.T) {
	was := many(500, 1000)
	for _, ops := range [][]api.Op{
		nil,
		{op(api.OpSet, "n1100", "k", "1")},
		{op(api.OpMark, "e1500", "z")},
		{op(api.OpDropEdge, "e1000"), op(api.OpEdge, "e1000", "n1499", "n1498")},
		{op(api.OpDropEdge, "e1700"), op(api.OpDropEdge, "e1701"), op(api.OpLabel, "n1350", "z")},
	} {
		s := shelf.New()
		is := behind(t, was, ops...)
		a, b := write(t, s, was), write(t, s, is)
		ra, rb := roots(t, s, a), roots(t, s, b)
		var gone []string
		for _, l := range [][2]string{{ra.Nodes, rb.Nodes}, {ra.Edges, rb.Edges}} {
			ofB := hand.Chunks(s, l[1])
			for _, n := range hand.Chunks(s, l[0]) {
				if slices.Contains(ofB, n) && n != l[0] && n != l[1] {
					gone = append(gone, n)
				}
			}
		}
		if len(gone) < 300 {
			t.Error(len(gone))
		}
		for _, root := range []string{ra.Out, rb.Out, ra.In, rb.In} {
			gone = append(gone, hand.Chunks(s, root)...)
		}
		told(t, hand.Without(s, gone...), a, b, was, is)
	}
}

func TestP34_1_NoStoredGraph(t *testing.T) {
	s := shelf.New()
	name, other := write(t, s, base(t)), write(t, s, many(3, 3))
	notOne, _ := s.Put("G")
	for _, bad := range []string{"", "x", notOne, roots(t, s, name).Nodes, sha.Sum("none"), name[:31]} {
		for _, s := range append(hand.NoShelves(), s) {
			for _, l := range [][2]string{{bad, name}, {other, bad}, {bad, bad}} {
				if got, e := Diff(s, l[0], l[1]); got != nil || e != api.ErrRot {
					t.Errorf("%q: %v %v", bad, got, e)
				}
			}
		}
	}
}

func TestP34_1_WhereAnObjectIsNotThere(t *testing.T) {
	var d sample.Dice
	for range 10 {
		s := shelf.New()
		was := many(40, 60)
		is := behind(t, was, op(api.OpSet, "n1020", "k", "1"), op(api.OpDropEdge, fmt.Sprint("e", 1000+d.Below(60))), op(api.OpNode, "z"))
		a, b := write(t, s, was), write(t, s, is)
		want, rot := told(t, s, a, b, was, is), 0
		for _, gone := range s.Names() {
			got, e := Diff(hand.Without(s, gone), a, b)
			switch {
			case e == api.ErrRot && got == nil:
				rot++
			case !slices.Equal(got, want) || e != api.OK:
				t.Fatal(got, e)
			}
		}
		if rot < 6 { // both texts, and the roots, at least
			t.Error(rot)
		}
	}
}

// odd stores a graph in trees that are cut otherwise.
func odd(t *testing.T, s *shelf.Shelf, g api.Graph) string {
	t.Helper()
	maps, _ := keys.Lay(g)
	return hand.Store(s, maps, hand.Odd)
}

func TestP34_1_OddTrees(t *testing.T) {
	var d sample.Dice
	s := shelf.New()
	for range 60 {
		was := d.Graph()
		is := drawn(&d, was, 5)
		told(t, s, odd(t, s, was), write(t, s, is), was, is)
		told(t, s, write(t, s, was), odd(t, s, is), was, is)
		told(t, s, odd(t, s, was), odd(t, s, is), was, is)
	}
}

// Bytes that are no node's, no edge's, are not as they must be; other maps that are no graph's are told of as they stand.
func TestP34_1_MapsThatAreNoGraphs(t *testing.T) {
	s := shelf.New()
	name := write(t, s, base(t))
	for _, bytes := range []string{"", "\x00", "x", "\x00\x00\x00"} {
		for _, maps := range [][4][]api.Entry{{{{Key: "a", Value: bytes}}}, {nil, {{Key: "e", Value: bytes}}}, {{{Key: "A", Value: "\x00\x00"}}}} {
			bad := hand.Store(s, maps, hand.Even)
			for _, l := range [][2]string{{bad, name}, {name, bad}} {
				if got, e := Diff(s, l[0], l[1]); got != nil || e != api.ErrRot {
					t.Errorf("%q: %v %v", maps, got, e)
				}
			}
		}
	}
	maps, _ := keys.Lay(api.Graph{Nodes: many(600, 0).Nodes, Edges: []api.Edge{{Id: "e", From: "a", To: "b"}}})
	for _, maps := range [][4][]api.Entry{maps, {nil, maps[1]}, {maps[0]}, {maps[0], nil, maps[2]}} {
		bad := hand.Store(s, maps, hand.Even)
		for _, l := range [][2]string{{bad, name}, {name, bad}} {
			if _, e := Diff(s, l[0], l[1]); e != api.OK && e != api.ErrRot {
				t.Error(e)
			}
		}
		if got, e := Diff(s, bad, bad); len(got) != 0 || e != api.OK {
			t.Error(got, e)
		}
	}
}

// Trees by hand that have more than could be gone through.
func TestP34_1_AllCallsEnd(t *testing.T) {
	node, _ := elem.PutNode(api.Node{Id: "a"})
	edge, _ := elem.PutEdge(api.Edge{Id: "a", From: "a", To: "a"})
	s := shelf.New()
	empty := hand.Even(s)
	name := write(t, s, base(t))
	for _, r := range []api.Roots{{Nodes: hand.Thicket(s, "a", node), Edges: empty, Out: empty, In: empty}, {Nodes: empty, Edges: hand.Thicket(s, "a", edge), Out: empty, In: empty}} {
		great, e := quad.Put(s, r)
		if e != api.OK {
			t.Fatal(e)
		}
		for _, l := range [][2]string{{great, name}, {name, great}, {great, great}} {
			if got, e := Diff(s, l[0], l[1]); e != api.OK && e != api.ErrRot {
				t.Error(got, e)
			}
			if got, conflicts, e := Merge(s, name, l[0], l[1]); got != "" || conflicts != nil || e != api.ErrRot {
				t.Error(got, conflicts, e)
			}
		}
	}
}

// merged holds Merge against three's Graphs.
func merged(t *testing.T, base, a, b api.Graph) api.Errno {
	t.Helper()
	s := shelf.New()
	want, wantBad, wantE := three.Graphs(base, a, b)
	name, bad, e := Merge(s, write(t, s, base), write(t, s, a), write(t, s, b))
	if !slices.Equal(bad, wantBad) || e != wantE {
		t.Fatal(base, a, b, bad, e)
	}
	if e != api.OK {
		if name != "" {
			t.Fatal(base, a, b, name)
		}
		return e
	}
	if got, e := quad.Read(s, name); !same(got, want) || e != api.OK || name != write(t, shelf.New(), want) {
		t.Fatal(base, a, b, got, e)
	}
	return e
}

func TestP34_2_Merge(t *testing.T) {
	var d sample.Dice
	met := map[api.Errno]int{}
	for range 600 {
		base := d.Graph()
		met[merged(t, base, drawn(&d, base, 3), drawn(&d, base, 3))]++
		met[merged(t, base, d.Graph(), drawn(&d, base, 12))]++
	}
	if met[api.OK] < 50 || met[api.ErrConflict] < 50 {
		t.Error(met)
	}
}

func TestP34_2_Conflicts(t *testing.T) {
	s, was := shelf.New(), base(t)
	a := behind(t, was, op(api.OpDropEdge, "e"), op(api.OpDropEdge, "f"), op(api.OpDropNode, "b"), op(api.OpSet, "a", "k", "2"))
	b := behind(t, was, op(api.OpEdge, "g", "c", "b"), op(api.OpSet, "a", "k", "3"), op(api.OpMark, "f", "z"))
	want := []api.Conflict{{Kind: api.FProp, Id: "a", Key: "k", Why: api.WhyBoth}, {Kind: api.FEdge, Id: "g", Why: api.WhyEnd}, {Kind: api.FMark, Id: "f", Key: "z", Why: api.WhyStray}}
	names := []string{write(t, s, was), write(t, s, a), write(t, s, b)}
	had := s.Len()
	for range 2 {
		name, bad, e := Merge(s, names[0], names[1], names[2])
		if name != "" || !slices.Equal(bad, want) || e != api.ErrConflict || s.Len() != had {
			t.Error(name, bad, e)
		}
		sample.Spoil(bad)
		names[1], names[2] = names[2], names[1]
	}
}

func TestP34_2_ErrLimit(t *testing.T) {
	base := many(499, 0)
	if e := merged(t, base, behind(t, base, op(api.OpNode, "y")), behind(t, base, op(api.OpNode, "z"))); e != api.ErrLimit {
		t.Error(e)
	}
	if e := merged(t, base, behind(t, base, op(api.OpNode, "y")), behind(t, base, op(api.OpNode, "y"))); e != api.OK {
		t.Error(e)
	}
	labels := strings.Split("b c d e f g h", " ")
	base = api.Graph{Nodes: []api.Node{{Id: "a", Labels: labels}}}
	if e := merged(t, base, behind(t, base, op(api.OpLabel, "a", "y")), behind(t, base, op(api.OpLabel, "a", "z"))); e != api.ErrLimit {
		t.Error(e)
	}
}

func TestP34_2_ReadsError(t *testing.T) {
	s := shelf.New()
	was := base(t)
	good := []string{write(t, s, was), write(t, s, behind(t, was, op(api.OpSet, "a", "k", "2"))), write(t, s, behind(t, was, op(api.OpSet, "a", "k", "3")))}
	maps, _ := keys.Lay(was)
	maps[2] = maps[2][1:]
	noGraph := hand.Store(s, maps, hand.Even)
	for _, bad := range []string{"", "x", sha.Sum("none"), noGraph} {
		for i := range good { // ahead of what three tells
			names := slices.Clone(good)
			names[i] = bad
			for _, s := range append(hand.NoShelves(), s) {
				if name, conflicts, e := Merge(s, names[0], names[1], names[2]); name != "" || conflicts != nil || e != api.ErrRot {
					t.Errorf("%q: %q %v %v", bad, name, conflicts, e)
				}
			}
		}
	}
	for _, gone := range s.Names() {
		if name, conflicts, e := Merge(hand.Without(s, gone), good[0], good[0], good[1]); e != api.OK && (name != "" || conflicts != nil || e != api.ErrRot) || e == api.OK && name != good[1] {
			t.Errorf("%q %v %v", name, conflicts, e)
		}
	}
}

func TestP34_3_OfAGraphAndItself(t *testing.T) {
	var d sample.Dice
	for range 100 {
		s, g := shelf.New(), d.Graph()
		name := write(t, s, g)
		if l, e := Diff(s, name, name); len(l) != 0 || e != api.OK {
			t.Fatal(g, l, e)
		}
		r := roots(t, s, name) // by a look at two roots alone
		kept := s.Only(func(n string) bool { return n == name || n == r.Nodes || n == r.Edges })
		if l, e := Diff(kept, name, name); len(l) != 0 || e != api.OK {
			t.Fatal(g, l, e)
		}
		if got, bad, e := Merge(s, name, name, name); got != name || len(bad) != 0 || e != api.OK {
			t.Fatal(g, bad, e)
		}
	}
}

func TestP34_3_WhoeverChangedNothing(t *testing.T) {
	var d sample.Dice
	for range 200 {
		s, g := shelf.New(), d.Graph()
		base, b := write(t, s, g), write(t, s, drawn(&d, g, 6))
		for _, l := range [][2]string{{base, b}, {b, base}, {b, b}} {
			had := s.Len()
			if got, bad, e := Merge(s, base, l[0], l[1]); got != b || len(bad) != 0 || e != api.OK || s.Len() != had {
				t.Fatal(g, bad, e)
			}
		}
	}
}

// A graph in trees that are cut otherwise is that graph; what comes of it is stored as Write does it.
func TestP34_3_OddTrees(t *testing.T) {
	var d sample.Dice
	for range 60 {
		s, g := shelf.New(), d.Graph()
		other := drawn(&d, g, 6)
		if l, e := Diff(s, odd(t, s, g), write(t, s, g)); len(l) != 0 || e != api.OK {
			t.Fatal(g, l, e)
		}
		if got, bad, e := Merge(s, odd(t, s, g), write(t, s, g), odd(t, s, other)); got != write(t, s, other) || len(bad) != 0 || e != api.OK {
			t.Fatal(g, bad, e)
		}
	}
}
