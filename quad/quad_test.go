package quad

import (
	"fmt"
	"reflect"
	"slices"
	"strings"
	"testing"

	"pleach/api"
	"pleach/elem"
	"pleach/graph"
	"pleach/hand"
	"pleach/keys"
	"pleach/sample"
	"pleach/sha"
	"pleach/shelf"
	"pleach/tree"
)

// same tells whether two graphs are the same; nil and empty lists are.
func same(a, b api.Graph) bool { return reflect.DeepEqual(sample.Plain(a), sample.Plain(b)) }

// none tells whether nothing is told.
func none(g api.Graph) bool { return reflect.DeepEqual(g, api.Graph{}) }

// many is a graph of so many nodes and edges, of which some have labels and properties that sample's ops name.
func many(nodes, edges int) api.Graph {
	var g api.Graph
	parts := func(i int) ([]string, []api.Prop) {
		return []string{"l0", "l1"}[:i%3], []api.Prop{{Key: "k0", Value: api.Value{Kind: api.VInt, Num: i}}}[:i%2]
	}
	for i := range nodes {
		n := api.Node{Id: fmt.Sprint("n", 1000+i)}
		n.Labels, n.Props = parts(i)
		g.Nodes = append(g.Nodes, n)
	}
	for i := range edges {
		x := api.Edge{Id: fmt.Sprint("e", 1000+i), From: g.Nodes[i*7%nodes].Id, To: g.Nodes[i*i%nodes].Id}
		x.Labels, x.Props = parts(i)
		g.Edges = append(g.Edges, x)
	}
	return g
}

// graphs is graphs that may be, of many sizes.
func graphs() []api.Graph {
	l := []api.Graph{{}, many(1, 0), many(1, 3), many(40, 0), many(40, 90), many(500, 1000)}
	var d sample.Dice
	for range 100 {
		l = append(l, d.Graph())
	}
	return l
}

// wrote is a shelf with a graph alone, and its name.
func wrote(t *testing.T, g api.Graph) (*shelf.Shelf, string) {
	t.Helper()
	s := shelf.New()
	name, e := Write(s, g)
	if e != api.OK {
		t.Fatal(g, e)
	}
	return s, name
}

// laid is the four maps of a graph.
func laid(t *testing.T, g api.Graph) [4][]api.Entry {
	t.Helper()
	l, e := keys.Lay(g)
	if e != api.OK {
		t.Fatal(g, e)
	}
	return l
}

// four is roots of so many bytes each.
func four(sizes ...int) api.Roots {
	var l [4]string
	for i := range l {
		l[i] = strings.Repeat("\x00L\xff3"[i:i+1], sizes[i%len(sizes)])
	}
	return api.Roots{Nodes: l[0], Edges: l[1], Out: l[2], In: l[3]}
}

// oddRoots may not be.
func oddRoots() []api.Roots {
	l := []api.Roots{{}, four(31), four(33), four(64), {Nodes: strings.Repeat("a", 128)}}
	for _, n := range []int{0, 1, 31, 33, 64} {
		l = append(l, four(n, 32, 32, 32), four(32, n, 32, 32), four(32, 32, n, 32), four(32, 32, 32, n))
	}
	return append(l, four(31, 33, 32, 32), four(32, 32, 33, 31), four(0, 64, 0, 64))
}

func TestP32_1_TextAndTake(t *testing.T) {
	for _, r := range []api.Roots{four(32), {Nodes: sha.Sum("n"), Edges: sha.Sum("e"), Out: sha.Sum("o"), In: sha.Sum("i")}} {
		want := "G" + r.Nodes + r.Edges + r.Out + r.In
		if s, e := Text(r); s != want || e != api.OK {
			t.Errorf("%q %v", s, e)
		}
		if got, e := Take(want); got != r || e != api.OK {
			t.Error(got, e)
		}
		for i := range want {
			if got, e := Take(want[:i]); got != (api.Roots{}) || e != api.ErrForm {
				t.Error(i, got, e)
			}
		}
		for _, s := range []string{"", "G", "g" + want[1:], "C" + want[1:], "\x00" + want[1:], want[1:], want + "\x00", want + want, "G" + want, want[1:] + "G"} {
			if got, e := Take(s); got != (api.Roots{}) || e != api.ErrForm {
				t.Errorf("%q: %v %v", s, got, e)
			}
		}
	}
}

func TestP32_1_RootsThatMayNotBe(t *testing.T) {
	s := shelf.New()
	for _, r := range oddRoots() {
		if text, e := Text(r); text != "" || e != api.ErrArg {
			t.Errorf("%v: %q %v", r, text, e)
		}
		for _, s := range append(hand.NoShelves(), s) {
			if name, e := Put(s, r); name != "" || e != api.ErrArg {
				t.Errorf("%v: %q %v", r, name, e)
			}
		}
	}
	if s.Len() != 0 {
		t.Error(s.Len())
	}
}

func TestP32_1_PutAndLoad(t *testing.T) {
	s, r := shelf.New(), four(32)
	text, _ := Text(r)
	for range 2 {
		if name, e := Put(s, r); name != sha.Sum(text) || e != api.OK || s.Len() != 1 {
			t.Error(name, e, s.Len())
		}
	}
	if got, e := Load(s, sha.Sum(text)); got != r || e != api.OK {
		t.Error(got, e)
	}
	for _, s := range hand.NoShelves() {
		if name, e := Put(s, r); name != "" || e != api.ErrNil {
			t.Error(name, e)
		}
		if got, e := Load(s, sha.Sum(text)); got != (api.Roots{}) || e != api.ErrRot {
			t.Error(got, e)
		}
	}
	bad := []string{"", "x", sha.Sum("none"), sha.Sum(text)[:31], sha.Sum(text) + "x", text}
	for _, other := range []string{"G", "x", text[1:], text[:128], text + "x", "C" + text[1:], "L\x00"} {
		name, _ := s.Put(other)
		bad = append(bad, name)
	}
	for _, name := range bad {
		if got, e := Load(s, name); got != (api.Roots{}) || e != api.ErrRot {
			t.Errorf("%q: %v %v", name, got, e)
		}
	}
}

func TestP32_2_TheGraphOfNothing(t *testing.T) {
	s := shelf.New()
	name, e := Write(s, api.Graph{})
	empty, _ := tree.Build(s)
	if name != sha.Sum("G"+strings.Repeat(empty, 4)) || e != api.OK || s.Len() != 2 {
		t.Error(name, e, s.Len())
	}
	if g, e := Read(s, name); !same(g, api.Graph{}) || e != api.OK {
		t.Error(g, e)
	}
}

func TestP32_2_Write(t *testing.T) {
	for _, g := range graphs() {
		s, name := wrote(t, g)
		own := shelf.New()
		if want := hand.Store(own, laid(t, g), hand.Even); name != want || !slices.Equal(s.Names(), own.Names()) {
			t.Fatal(g)
		}
		r, e := Load(s, name)
		if e != api.OK {
			t.Fatal(g, e)
		}
		for i, root := range []string{r.Nodes, r.Edges, r.Out, r.In} {
			if l, e := tree.All(s, root); !slices.Equal(l, laid(t, g)[i]) || e != api.OK || !tree.Sound(s, root) {
				t.Fatal(g, i, l, e)
			}
		}
		if again, e := Write(s, g); again != name || e != api.OK || s.Len() != own.Len() {
			t.Fatal(g)
		}
	}
}

// badGraphs may not be, by their errors.
func badGraphs() map[api.Errno][]api.Graph {
	a := []api.Node{{Id: "a"}}
	return map[api.Errno][]api.Graph{
		api.ErrLimit: {many(501, 0), many(500, 1001), {Nodes: []api.Node{{Id: "a", Labels: strings.Split("a b c d e f g h i", " ")}}}},
		api.ErrArg:   {{Nodes: []api.Node{{Id: "A"}}}, {Nodes: a, Edges: []api.Edge{{Id: "e", From: "a"}}}},
		api.ErrOrder: {{Nodes: []api.Node{{Id: "b"}, {Id: "a"}}}, {Nodes: []api.Node{{Id: "a"}, {Id: "a"}}}},
		api.ErrNone:  {{Edges: []api.Edge{{Id: "e", From: "a", To: "a"}}}, {Nodes: a, Edges: []api.Edge{{Id: "e", From: "a", To: "b"}}}},
	}
}

func TestP32_2_WritesErrors(t *testing.T) {
	s := shelf.New()
	for want, l := range badGraphs() {
		for _, g := range l {
			for _, s := range append(hand.NoShelves(), s) {
				if name, e := Write(s, g); name != "" || e != want {
					t.Errorf("%q %v %v", name, e, want)
				}
			}
		}
	}
	if s.Len() != 0 {
		t.Error(s.Len())
	}
	for _, s := range hand.NoShelves() {
		if name, e := Write(s, many(2, 2)); name != "" || e != api.ErrNil {
			t.Errorf("%q %v", name, e)
		}
	}
}

func TestP32_2_Read(t *testing.T) {
	s := shelf.New() // one for all
	var names []string
	for _, g := range graphs() {
		name, e := Write(s, g)
		if e != api.OK {
			t.Fatal(e)
		}
		names = append(names, name)
	}
	was := s.Len()
	for i, g := range graphs() {
		if got, e := Read(s, names[i]); !same(got, g) || e != api.OK {
			t.Fatal(g, got, e)
		}
	}
	if s.Len() != was {
		t.Error(s.Len(), was)
	}
}

// A map is what its tree has, however that is cut.
func TestP32_2_ReadOfOddTrees(t *testing.T) {
	for _, g := range graphs() {
		s := shelf.New()
		name := hand.Store(s, laid(t, g), hand.Odd)
		if got, e := Read(s, name); !same(got, g) || e != api.OK {
			t.Fatal(g, got, e)
		}
	}
}

func TestP32_2_WhereAnObjectIsNotThere(t *testing.T) {
	s, name := wrote(t, many(40, 90))
	for _, gone := range s.Names() {
		if g, e := Read(hand.Without(s, gone), name); !none(g) || e != api.ErrRot {
			t.Error(g, e)
		}
	}
	notOne, _ := s.Put("G")
	for _, name := range []string{"", "x", notOne, sha.Sum("none"), s.Names()[0], name[:31]} {
		if g, e := Read(s, name); !none(g) || e != api.ErrRot {
			t.Error(g, e)
		}
	}
	for _, s := range hand.NoShelves() {
		if g, e := Read(s, name); !none(g) || e != api.ErrRot {
			t.Error(g, e)
		}
	}
}

// spoilt is four maps in which one entry is another one, or gone, or one is more: none are a graph's.
func spoilt(l [4][]api.Entry) [][4][]api.Entry {
	var all [][4][]api.Entry
	other := func(i int, row []api.Entry) {
		m := l
		m[i] = row
		all = append(all, m)
	}
	for i, row := range l {
		for k, x := range row {
			for _, value := range []string{x.Value + "\x00", "", "zz"} {
				spoilt := slices.Clone(row)
				spoilt[k].Value = value
				other(i, spoilt)
			}
		}
		for _, key := range []string{"zz\x00zz", "\x00", "zz"} {
			if i > 1 || key != "zz" { // of such a key it would be a node, an edge
				more := append(slices.Clone(row), api.Entry{Key: key, Value: "\x00\x00"})
				slices.SortFunc(more, func(a, b api.Entry) int { return strings.Compare(a.Key, b.Key) })
				other(i, more)
			}
		}
		if i == 0 {
			continue // a node that no edge needs may be gone
		}
		for k := range row {
			other(i, slices.Delete(slices.Clone(row), k, k+1))
		}
	}
	return all
}

func TestP32_2_MapsThatAreNoGraphs(t *testing.T) {
	g := many(12, 18)
	l := laid(t, g)
	for _, m := range spoilt(l) {
		for _, plant := range []func(s *shelf.Shelf, l ...api.Entry) string{hand.Even, hand.Odd} {
			s := shelf.New()
			name := hand.Store(s, m, plant)
			if got, e := Read(s, name); !none(got) || e != api.ErrRot {
				t.Fatalf("%q: %v %v", m, got, e)
			}
		}
	}
	for i := range l { // each in another one's place
		for k := range i {
			m := l
			m[i], m[k] = l[k], l[i]
			s := shelf.New()
			if got, e := Read(s, hand.Store(s, m, hand.Even)); !none(got) || e != api.ErrRot {
				t.Error(i, k, got, e)
			}
		}
	}
}

// Maps that would be a graph's, if that might be.
func TestP32_2_GraphsThatMayNotBe(t *testing.T) {
	for _, g := range []api.Graph{
		many(501, 0),
		many(2, 1001),
		{Edges: []api.Edge{{Id: "e", From: "a", To: "a"}}},
		{Nodes: []api.Node{{Id: "a"}}, Edges: []api.Edge{{Id: "e", From: "a", To: "b"}}},
		{Nodes: []api.Node{{Id: "b"}}, Edges: []api.Edge{{Id: "e", From: "a", To: "b"}}},
	} {
		s := shelf.New()
		if got, e := Read(s, hand.Store(s, laid(t, g), hand.Even)); !none(got) || e != api.ErrRot {
			t.Error(got, e)
		}
	}
	for _, id := range []string{"A", "abcdefghijklm", "a\x00"} {
		s := shelf.New()
		m := [4][]api.Entry{{{Key: id, Value: "\x00\x00"}}}
		if got, e := Read(s, hand.Store(s, m, hand.Even)); !none(got) || e != api.ErrRot {
			t.Error(got, e)
		}
	}
	long := strings.Repeat("a", 64) // no node has as many bytes as a value of a map
	s := shelf.New()
	m := [4][]api.Entry{{{Key: long, Value: strings.Repeat("\x00", 2048)}}}
	if got, e := Read(s, hand.Store(s, m, hand.Even)); !none(got) || e != api.ErrRot {
		t.Error(got, e)
	}
}

// Trees that have more than could be gone through.
func TestP32_2_ReadEnds(t *testing.T) {
	bytes, _ := elem.PutNode(api.Node{Id: "a"})
	for i := range 4 {
		s := shelf.New()
		var l [4]string
		for k := range l {
			l[k] = hand.Even(s)
		}
		l[i] = hand.Thicket(s, "a", bytes)
		name, _ := s.Put("G" + strings.Join(l[:], ""))
		if got, e := Read(s, name); !none(got) || e != api.ErrRot {
			t.Error(i, got, e)
		}
	}
}

func TestP32_4_ReadLeadsBackFromWrite(t *testing.T) {
	for _, g := range graphs() {
		s, name := wrote(t, g)
		got, e := Read(s, name)
		if !same(got, g) || e != api.OK {
			t.Fatal(g, got, e)
		}
		if again, e := Write(shelf.New(), got); again != name || e != api.OK {
			t.Fatal(g, e)
		}
	}
}

// Graphs that are unlike have unlike names.
func TestP32_4_OtherGraphsOtherNames(t *testing.T) {
	met := map[string]api.Graph{}
	for _, g := range graphs() {
		_, name := wrote(t, g)
		if other, ok := met[name]; ok && !graph.Same(other, g) {
			t.Fatal(other, g)
		}
		met[name] = g
	}
}

func TestP32_4_NothingHandedInIsChanged(t *testing.T) {
	var d sample.Dice
	for range 100 {
		g := sample.RoomOf(d.Graph())
		was := sample.AllOf(g)
		s, name := wrote(t, g)
		for range 2 {
			got, e := Read(s, name)
			if !same(got, g) || e != api.OK {
				t.Fatal(g, got, e)
			}
			for i := range got.Nodes { // no list reaches into another one
				got.Nodes[i].Labels = append(got.Nodes[i].Labels, "other")
				got.Nodes[i].Props = append(got.Nodes[i].Props, api.Prop{Key: "other"})
			}
			for i, n := range got.Nodes {
				if l := n.Labels[:len(n.Labels)-1]; !slices.Equal(l, g.Nodes[i].Labels) {
					t.Fatal(i, l)
				}
			}
			sample.SpoilOf(got)
		}
		if !reflect.DeepEqual(sample.AllOf(g), was) {
			t.Fatal(g)
		}
	}
}
