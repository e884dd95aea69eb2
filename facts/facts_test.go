package facts

import (
	"cmp"
	"math"
	"reflect"
	"slices"
	"strconv"
	"strings"
	"testing"

	"pleach/api"
	"pleach/graph"
	"pleach/sample"
	"pleach/value"
)

// same tells whether two graphs are the same; nil and empty lists are.
func same(a, b api.Graph) bool { return reflect.DeepEqual(sample.Plain(a), sample.Plain(b)) }

func number(n int) api.Value { return api.Value{Kind: api.VInt, Num: n} }

// whole is a graph with a fact of each kind, and more; its facts are those of wholeFacts.
func whole() api.Graph {
	return api.Graph{
		Nodes: []api.Node{
			{Id: "a", Labels: []string{"x", "y"}, Props: []api.Prop{{Key: "k", Value: number(1)}}},
			{Id: "b"},
			{Id: "b-", Labels: []string{"w"}, Props: []api.Prop{{Key: "j", Value: api.Value{Kind: api.VBool}}, {Key: "k", Value: api.Value{Kind: api.VText, Text: "\x00"}}}},
		},
		Edges: []api.Edge{
			{Id: "a", From: "b", To: "a", Labels: []string{"m"}, Props: []api.Prop{{Key: "q", Value: number(-1)}}},
			{Id: "e", From: "b-", To: "b-", Labels: []string{"l", "m"}, Props: []api.Prop{{Key: "p", Value: number(0)}}},
		},
	}
}

func wholeFacts() []api.Fact {
	return []api.Fact{
		{Kind: 1, Id: "a"},
		{Kind: 1, Id: "b"},
		{Kind: 1, Id: "b-"},
		{Kind: 2, Id: "a", Key: "x"},
		{Kind: 2, Id: "a", Key: "y"},
		{Kind: 2, Id: "b-", Key: "w"},
		{Kind: 3, Id: "a", Key: "k", Value: "\x02\x02"},
		{Kind: 3, Id: "b-", Key: "j", Value: "\x01\x00"},
		{Kind: 3, Id: "b-", Key: "k", Value: "\x03\x01\x00"},
		{Kind: 4, Id: "a", Value: "b\x00a"},
		{Kind: 4, Id: "e", Value: "b-\x00b-"},
		{Kind: 5, Id: "a", Key: "m"},
		{Kind: 5, Id: "e", Key: "l"},
		{Kind: 5, Id: "e", Key: "m"},
		{Kind: 6, Id: "a", Key: "q", Value: "\x02\x01"},
		{Kind: 6, Id: "e", Key: "p", Value: "\x02\x00"},
	}
}

func TestP27_1_Compare(t *testing.T) {
	var l []api.Fact // as they stand
	for _, kind := range []int{math.MinInt, -1, 0, 1, 2, 6, 7, math.MaxInt} {
		for _, id := range []string{"", "\x00", "a", "aa", "b", "\xff"} {
			for _, key := range []string{"", "A", "a", "a-", "b"} {
				l = append(l, api.Fact{Kind: kind, Id: id, Key: key})
			}
		}
	}
	for i, a := range l {
		for k, b := range l {
			a.Value, b.Value = strconv.Itoa(k), strconv.Itoa(i) // it plays no part
			want := 0
			if i < k {
				want = -1
			} else if i > k {
				want = 1
			}
			if got := Compare(a, b); got != want {
				t.Fatal(a, b, got)
			}
		}
	}
}

func TestP27_1_Rise(t *testing.T) {
	l := wholeFacts()
	for i := range l {
		for k := i; k <= len(l); k++ {
			if e := Rise(l[i:k]...); e != api.OK {
				t.Error(i, k, e)
			}
		}
	}
	for i := range l {
		for k := range l {
			swapped := wholeFacts()
			swapped[i], swapped[k] = swapped[k], swapped[i]
			if e := Rise(swapped...); i != k && e != api.ErrOrder {
				t.Error(i, k, e)
			}
		}
		twice := slices.Insert(wholeFacts(), i, l[i])
		twice[i].Value += "x" // of one place, though unlike
		if e := Rise(twice...); e != api.ErrOrder {
			t.Error(i, e)
		}
	}
	if Rise() != api.OK {
		t.Error("nothing rises")
	}
}

func TestP27_1_Of(t *testing.T) {
	if l := Of(whole()); !slices.Equal(l, wholeFacts()) {
		t.Error(l)
	}
	if l := Of(api.Graph{}); len(l) != 0 {
		t.Error(l)
	}
	if l := Of(api.Graph{Nodes: []api.Node{{Id: "a"}}}); !slices.Equal(l, []api.Fact{{Kind: api.FNode, Id: "a"}}) {
		t.Error(l)
	}
}

// said is what a graph says, by the words alone.
func said(g api.Graph) []api.Fact {
	var l []api.Fact
	parts := func(id string, label int, labels []string, prop int, props []api.Prop) {
		for _, s := range labels {
			l = append(l, api.Fact{Kind: label, Id: id, Key: s})
		}
		for _, p := range props {
			v, _ := value.Put(p.Value)
			l = append(l, api.Fact{Kind: prop, Id: id, Key: p.Key, Value: v})
		}
	}
	for _, n := range g.Nodes {
		l = append(l, api.Fact{Kind: 1, Id: n.Id})
		parts(n.Id, 2, n.Labels, 3, n.Props)
	}
	for _, x := range g.Edges {
		l = append(l, api.Fact{Kind: 4, Id: x.Id, Value: x.From + "\x00" + x.To})
		parts(x.Id, 5, x.Labels, 6, x.Props)
	}
	slices.SortFunc(l, func(a, b api.Fact) int {
		if a.Kind != b.Kind {
			return a.Kind - b.Kind
		}
		return strings.Compare(a.Id+"\x00"+a.Key, b.Id+"\x00"+b.Key) // a byte 0 is ahead of all that names have
	})
	return l
}

func TestP27_1_OfAnyGraph(t *testing.T) {
	var d sample.Dice
	for range 500 {
		g := sample.RoomOf(d.Graph())
		was := sample.AllOf(g)
		l := Of(g)
		if !slices.Equal(l, said(g)) || Rise(l...) != api.OK {
			t.Fatal(g, l)
		}
		if !reflect.DeepEqual(sample.AllOf(g), was) {
			t.Fatal(g)
		}
	}
}

func TestP27_1_OfAGraphThatMayNotBe(t *testing.T) {
	for i, spoil := range []func(g *api.Graph){
		func(g *api.Graph) { slices.Reverse(g.Nodes) },
		func(g *api.Graph) { slices.Reverse(g.Edges) },
		func(g *api.Graph) { slices.Reverse(g.Nodes[0].Labels) },
		func(g *api.Graph) { slices.Reverse(g.Nodes[2].Props) },
		func(g *api.Graph) { g.Nodes[0].Id = "A" },
		func(g *api.Graph) { g.Nodes[0].Props[0].Value = api.Value{} },
		func(g *api.Graph) { g.Nodes = g.Nodes[:2] },
		func(g *api.Graph) { g.Edges[1].To = "c" },
		func(g *api.Graph) { g.Edges[1].Labels = strings.Split("a b c d e f g h i", " ") },
		func(g *api.Graph) { g.Nodes = make([]api.Node, 501) },
	} {
		g := whole()
		spoil(&g)
		if l := Of(g); len(l) != 0 {
			t.Error(i, l)
		}
	}
}

func TestP27_1_EndsAndParted(t *testing.T) {
	for _, c := range []struct{ from, to, s string }{
		{"a", "b", "a\x00b"},
		{"a", "a", "a\x00a"},
		{"", "", "\x00"},
		{"a", "", "a\x00"},
		{"", "b", "\x00b"},
		{"a", "b\x00c", "a\x00b\x00c"},
		{"a", "\x00", "a\x00\x00"},
	} {
		if s := Ends(c.from, c.to); s != c.s {
			t.Errorf("%q", s)
		}
		if from, to := Parted(c.s); from != c.from || to != c.to {
			t.Errorf("%q: %q %q", c.s, from, to)
		}
	}
	if s := Ends("a\x00", "b"); s != "a\x00\x00b" {
		t.Errorf("%q", s)
	}
	for _, s := range []string{"", "a", "a b", "ab\xff0"} {
		if from, to := Parted(s); from != s || to != "" {
			t.Errorf("%q: %q %q", s, from, to)
		}
	}
}

func TestP27_2_Graph(t *testing.T) {
	if g, e := Graph(wholeFacts()...); !same(g, whole()) || e != api.OK {
		t.Error(g, e)
	}
	for _, l := range [][]api.Fact{nil, {}} {
		if g, e := Graph(l...); !same(g, api.Graph{}) || e != api.OK {
			t.Error(g, e)
		}
	}
}

// noGraph tells that facts are no graph's.
func noGraph(t *testing.T, want api.Errno, l ...api.Fact) {
	t.Helper()
	if g, e := Graph(l...); !reflect.DeepEqual(g, api.Graph{}) || e != want {
		t.Error(l, g, e)
	}
}

// but is the facts of a whole graph, one of which is another one.
func but(at int, f api.Fact) []api.Fact {
	l := wholeFacts()
	l[at] = f
	return l
}

func TestP27_2_NoGraphsFacts(t *testing.T) {
	l := wholeFacts()
	for i, f := range l {
		if f.Kind == api.FNode || f.Kind == api.FEdge { // on each of them something stands
			noGraph(t, api.ErrForm, slices.Delete(wholeFacts(), i, i+1)...)
		}
		for _, g := range []api.Fact{
			{Kind: f.Kind, Id: f.Id, Key: f.Key, Value: f.Value + "\x00"},
			{Kind: f.Kind, Id: f.Id, Key: f.Key, Value: "\x00" + f.Value},
			{Kind: f.Kind, Id: f.Id, Key: f.Key, Value: "A"},
			{Kind: f.Kind, Id: f.Id, Key: f.Key + "A", Value: f.Value},
			{Kind: f.Kind, Id: f.Id + "\x00", Key: f.Key, Value: f.Value},
		} {
			l := but(i, g)
			noGraph(t, cmp.Or(Rise(l...), api.ErrForm), l...)
		}
	}
	for _, f := range []api.Fact{{}, {Kind: -1, Id: "a"}, {Kind: math.MinInt}} {
		noGraph(t, api.ErrForm, append([]api.Fact{f}, l...)...)
		noGraph(t, api.ErrForm, f)
	}
	for _, f := range []api.Fact{{Kind: 7, Id: "a"}, {Kind: math.MaxInt}} {
		noGraph(t, api.ErrForm, append(wholeFacts(), f)...)
		noGraph(t, api.ErrForm, f)
	}
	for kind := 2; kind <= 6; kind++ { // of nothing
		noGraph(t, api.ErrForm, api.Fact{Kind: kind, Id: "a", Key: "k", Value: "\x02\x02"})
	}
	noGraph(t, api.ErrForm, api.Fact{Kind: 1, Id: "a"}, api.Fact{Kind: 1, Id: "a", Key: "k"})
	noGraph(t, api.ErrForm, api.Fact{Kind: 1, Id: "a"}, api.Fact{Kind: 3, Id: "a", Key: "k"})
	noGraph(t, api.ErrForm, api.Fact{Kind: 1, Id: "a"}, api.Fact{Kind: 3, Id: "a", Key: "k", Value: "\x02\x80\x00"})
	noGraph(t, api.ErrForm, api.Fact{Kind: 1, Id: "a"}, api.Fact{Kind: 4, Id: "e", Value: "a"})
	noGraph(t, api.ErrForm, api.Fact{Kind: 1, Id: "a"}, api.Fact{Kind: 4, Id: "e", Value: "a\x00a\x00a"})
	noGraph(t, api.ErrForm, api.Fact{Kind: 1, Id: "a"}, api.Fact{Kind: 4, Id: "e", Value: "a\x00a"}, api.Fact{Kind: 4, Id: "e", Key: "k", Value: "a\x00a"})
	noGraph(t, api.ErrForm, api.Fact{Kind: 1, Id: "a"}, api.Fact{Kind: 5, Id: "a", Key: "k"})
	noGraph(t, api.ErrForm, api.Fact{Kind: 1, Id: "a"}, api.Fact{Kind: 4, Id: "e", Value: "a\x00a"}, api.Fact{Kind: 6, Id: "a", Key: "k", Value: "\x02\x02"})
}

func TestP27_2_MoreThanAGraphMayHave(t *testing.T) {
	var nodes, edges []api.Fact
	for i := range 501 {
		nodes = append(nodes, api.Fact{Kind: api.FNode, Id: "n" + strconv.Itoa(1000+i)})
	}
	for i := range 1001 {
		edges = append(edges, api.Fact{Kind: api.FEdge, Id: "e" + strconv.Itoa(1000+i), Value: "n1000\x00n1001"})
	}
	noGraph(t, api.ErrForm, nodes...)
	noGraph(t, api.ErrForm, slices.Concat(nodes[:500], edges)...)
	if g, e := Graph(slices.Concat(nodes[:500], edges[:1000])...); len(g.Nodes) != 500 || len(g.Edges) != 1000 || e != api.OK {
		t.Error(e)
	}
	for _, kind := range []int{api.FLabel, api.FProp} {
		l := []api.Fact{{Kind: api.FNode, Id: "a"}}
		for _, key := range strings.Split("a b c d e f g h i", " ") {
			f := api.Fact{Kind: kind, Id: "a", Key: key}
			if kind == api.FProp {
				f.Value = "\x02\x00"
			}
			l = append(l, f)
		}
		noGraph(t, api.ErrForm, l...)
		if _, e := Graph(l[:9]...); e != api.OK {
			t.Error(kind, e)
		}
	}
}

func TestP27_2_RisesError(t *testing.T) {
	l := wholeFacts()
	for i := range l {
		twice := slices.Insert(wholeFacts(), i, l[i])
		noGraph(t, api.ErrOrder, twice...)
		noGraph(t, api.ErrOrder, append(twice, api.Fact{Kind: 7})...) // ahead of ErrForm
	}
	noGraph(t, api.ErrOrder, l[1], l[0])
	noGraph(t, api.ErrOrder, api.Fact{Kind: 9}, api.Fact{Kind: 8})
}

// A graph of facts has memory of its own.
func TestP27_2_TheGraphIsApart(t *testing.T) {
	l := sample.Room(wholeFacts(), api.Fact{Id: "other"})
	was := sample.All(l)
	a, _ := Graph(l...)
	b, _ := Graph(l...)
	for i := range a.Nodes {
		sample.Spoil(a.Nodes[i].Labels)
		sample.Spoil(a.Nodes[i].Props)
		a.Nodes[i].Labels, a.Nodes[i].Props = whole().Nodes[i].Labels, whole().Nodes[i].Props
		if !same(a, whole()) {
			t.Error(i, a)
		}
	}
	sample.SpoilOf(a)
	if !same(b, whole()) || !slices.Equal(sample.All(l), was) {
		t.Error(b, l)
	}
}

// point is where a fact stands.
type point struct {
	kind    int
	id, key string
}

func at(f api.Fact) point { return point{f.Kind, f.Id, f.Key} }

// points are a few, as they stand; some of them no graph has.
func points() []point {
	return []point{{-1, "a", "k"}, {1, "a", ""}, {1, "a", "b"}, {1, "b", ""}, {4, "a", "k"}, {9, "", ""}}
}

// rows are rows of facts that rise: all that have, at some points, nothing or one of two values. Which is 3^5.
func rows() [][]api.Fact {
	l := [][]api.Fact{nil}
	for _, p := range points()[1:] {
		var next [][]api.Fact
		for _, row := range l {
			next = append(next, row)
			for _, v := range []string{"", "v"} {
				next = append(next, append(slices.Clip(row), api.Fact{Kind: p.kind, Id: p.id, Key: p.key, Value: v}))
			}
		}
		l = next
	}
	return l
}

func has(l []api.Fact) map[point]string {
	m := map[point]string{}
	for _, f := range l {
		m[at(f)] = f.Value
	}
	return m
}

func TestP27_3_Diff(t *testing.T) {
	all := rows()
	for _, a := range all {
		for _, b := range all {
			var want []api.Change
			was, is := has(a), has(b)
			for _, p := range points() {
				old, isOld := was[p]
				new, isNew := is[p]
				if isOld != isNew || old != new {
					want = append(want, api.Change{Kind: p.kind, Id: p.id, Key: p.key, Was: isOld, Is: isNew, Old: old, New: new})
				}
			}
			if got := Diff(a, b); !slices.Equal(got, want) {
				t.Fatal(a, b, got)
			}
		}
	}
}

func TestP27_3_Apply(t *testing.T) {
	changes := [][]api.Change{nil}
	for i, p := range points() {
		var next [][]api.Change
		for k, row := range changes {
			c := api.Change{Kind: p.kind, Id: p.id, Key: p.key, Was: (i+k)%2 == 0, Old: "o"} // what was plays no part
			gone, none, some := c, c, c
			gone.New = "n" // nor New of what is not
			none.Is = true
			some.Is, some.New = true, "v"
			next = append(next, row, append(slices.Clip(row), gone), append(slices.Clip(row), none), append(slices.Clip(row), some))
		}
		changes = next
	}
	for i, l := range rows() {
		for k := i % 7; k < len(changes); k += 7 {
			m := has(l)
			for _, c := range changes[k] {
				delete(m, point{c.Kind, c.Id, c.Key})
				if c.Is {
					m[point{c.Kind, c.Id, c.Key}] = c.New
				}
			}
			var want []api.Fact
			for _, p := range points() {
				if v, ok := m[p]; ok {
					want = append(want, api.Fact{Kind: p.kind, Id: p.id, Key: p.key, Value: v})
				}
			}
			if got := Apply(l, changes[k]...); !slices.Equal(got, want) {
				t.Fatal(l, changes[k], got)
			}
		}
	}
}

func TestP27_3_NothingHandedInIsChanged(t *testing.T) {
	all := rows()
	for i, a := range all {
		b := all[(i*7+5)%len(all)]
		x, y := sample.Room(a, api.Fact{Id: "other"}), sample.Room(b, api.Fact{Id: "other"})
		wasX, wasY := sample.All(x), sample.All(y)
		c := sample.Room(Diff(x, y), api.Change{Id: "other"})
		wasC := sample.All(c)
		got := Apply(x, c...)
		sample.Spoil(got)
		if !slices.Equal(sample.All(x), wasX) || !slices.Equal(sample.All(y), wasY) || !slices.Equal(sample.All(c), wasC) {
			t.Fatal(a, b)
		}
	}
	for _, a := range all { // nothing has changed, and what is answered is a row of its own
		x := sample.Room(a, api.Fact{Id: "other"})
		was := sample.All(x)
		sample.Spoil(Apply(x))
		if !slices.Equal(sample.All(x), was) {
			t.Fatal(a)
		}
	}
}

// Rows that do not rise: the calls end.
func TestP27_3_RowsThatDoNotRise(t *testing.T) {
	odd := [][]api.Fact{
		{{Kind: 2}, {Kind: 1}},
		{{Kind: 1, Id: "a"}, {Kind: 1, Id: "a"}, {Kind: 1, Id: "a", Value: "v"}},
		{{Kind: 9}, {}, {Kind: -1, Id: "z"}, {Kind: 4, Key: "x"}, {Kind: 4}},
		slices.Repeat([]api.Fact{{Kind: 3, Id: "b"}, {Kind: 3, Id: "a"}}, 100),
	}
	for _, a := range append(odd, wholeFacts()) {
		for _, b := range append(odd, wholeFacts()) {
			c := Diff(a, b)
			slices.Reverse(c)
			Apply(a, c...)
			Apply(b, append(c, c...)...)
		}
	}
}

func TestP27_4_GraphLeadsBackFromOf(t *testing.T) {
	var d sample.Dice
	for range 1000 {
		g := d.Graph()
		back, e := Graph(Of(g)...)
		if !same(back, g) || e != api.OK || !graph.Same(back, g) {
			t.Fatal(g, back, e)
		}
	}
}

func TestP27_4_ApplyOfDiff(t *testing.T) {
	var d sample.Dice
	for range 1000 {
		a, b := Of(d.Graph()), Of(d.Graph())
		if got := Apply(a, Diff(a, b)...); !slices.Equal(got, b) {
			t.Fatal(a, b, got)
		}
		if c := Diff(a, a); len(c) != 0 {
			t.Fatal(a, c)
		}
	}
	all := rows()
	for _, a := range all {
		for i := range all {
			if b := all[(i*11+3)%len(all)]; !slices.Equal(Apply(a, Diff(a, b)...), b) {
				t.Fatal(a, b)
			}
		}
	}
}
