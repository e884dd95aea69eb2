package three

import (
	"math"
	"reflect"
	"slices"
	"strconv"
	"strings"
	"testing"

	"pleach/api"
	"pleach/facts"
	"pleach/graph"
	"pleach/sample"
)

// same tells whether two graphs are the same; nil and empty lists are.
func same(a, b api.Graph) bool { return reflect.DeepEqual(sample.Plain(a), sample.Plain(b)) }

// spot is where a fact stands; has is what a row has at its spots.
type spot struct {
	kind    int
	id, key string
}

func has(l []api.Fact) map[spot]string {
	m := map[spot]string{}
	for _, f := range l {
		m[spot{f.Kind, f.Id, f.Key}] = f.Value
	}
	return m
}

// merged is what Facts is to answer of rows that have something at some of these spots alone, which rise: point by point, as the document tells it.
func merged(spots []spot, base, a, b []api.Fact) ([]api.Fact, []api.Conflict) {
	ofBase, ofA, ofB := has(base), has(a), has(b)
	type what struct {
		value string
		is    bool
	}
	at := func(m map[spot]string, p spot) what {
		v, is := m[p]
		return what{v, is}
	}
	counts, both := map[spot]string{}, map[spot]bool{}
	for _, p := range spots {
		x, y, z := at(ofBase, p), at(ofA, p), at(ofB, p)
		left := y
		switch {
		case y == z, z == x:
		case y == x:
			left = z
		default:
			both[p] = true
			continue
		}
		if left.is {
			counts[p] = left.value
		}
	}
	there := func(kind int, id string) bool {
		_, is := counts[spot{kind, id, ""}]
		return is || both[spot{kind, id, ""}]
	}
	var l []api.Fact
	var conflicts []api.Conflict
	for _, p := range spots {
		v, is := counts[p]
		why := 0
		if is {
			l = append(l, api.Fact{Kind: p.kind, Id: p.id, Key: p.key, Value: v})
			from, to := facts.Parted(v)
			switch p.kind {
			case 2, 3:
				if !there(1, p.id) {
					why = 3
				}
			case 4:
				if !there(1, from) || !there(1, to) {
					why = 2
				}
			case 5, 6:
				if !there(4, p.id) {
					why = 3
				}
			}
		} else if both[p] {
			why = 1
		}
		if why > 0 {
			conflicts = append(conflicts, api.Conflict{Kind: p.kind, Id: p.id, Key: p.key, Why: why})
		}
	}
	if len(conflicts) > 0 {
		l = nil
	}
	return l, conflicts
}

// domain is spots, each with the values that facts may have there.
type domain []struct {
	spot
	values []string
}

func (l domain) spots() []spot {
	var spots []spot
	for _, x := range l {
		spots = append(spots, x.spot)
	}
	return spots
}

// rows are all rows of a domain.
func (l domain) rows() [][]api.Fact {
	all := [][]api.Fact{nil}
	for _, x := range l {
		var next [][]api.Fact
		for _, row := range all {
			next = append(next, row)
			for _, v := range x.values {
				next = append(next, append(slices.Clip(row), api.Fact{Kind: x.kind, Id: x.id, Key: x.key, Value: v}))
			}
		}
		all = next
	}
	return all
}

// three holds Facts against merged, either side being a.
func three(t *testing.T, spots []spot, base, a, b []api.Fact) {
	t.Helper()
	want, wantC := merged(spots, base, a, b)
	for range 2 {
		got, conflicts := Facts(base, a, b)
		if !slices.Equal(got, want) || !slices.Equal(conflicts, wantC) {
			t.Fatal(base, a, b, got, conflicts, want, wantC)
		}
		a, b = b, a
	}
}

// tried holds Facts against merged of any three rows of a domain.
func (l domain) tried(t *testing.T) {
	t.Helper()
	all := l.rows()
	for _, base := range all {
		for i, a := range all {
			for _, b := range all[i:] {
				three(t, l.spots(), base, a, b)
			}
		}
	}
}

func TestP28_1_NodesAndEdges(t *testing.T) {
	d := domain{
		{spot{1, "a", ""}, []string{""}},
		{spot{1, "b", ""}, []string{""}},
		{spot{2, "b", "x"}, []string{""}},
		{spot{3, "a", "k"}, []string{"\x02\x00"}},
		{spot{4, "e", ""}, []string{"a\x00b", "b\x00b"}},
	}
	d.tried(t)
}

func TestP28_1_EdgesAndWhatTheyHave(t *testing.T) {
	d := domain{
		{spot{1, "a", ""}, []string{""}},
		{spot{4, "e", ""}, []string{"a\x00a"}},
		{spot{4, "f", ""}, []string{"a\x00a", "a\x00b"}},
		{spot{5, "f", "m"}, []string{""}},
		{spot{6, "e", "q"}, []string{"\x02\x00"}},
	}
	d.tried(t)
}

// Rows of facts that no graph has: a node with a value, with a key, of an empty Id; an edge of one node; other kinds.
func TestP28_1_FactsOfNoGraph(t *testing.T) {
	d := domain{
		{spot{-1, "a", ""}, []string{"v", "w"}},
		{spot{1, "", ""}, []string{"", "v"}},
		{spot{1, "a", ""}, []string{"", "v"}},
		{spot{1, "a", "k"}, []string{""}},
		{spot{2, "a", ""}, []string{""}},
		{spot{2, "b", "k"}, []string{"v", "w"}},
		{spot{3, "", "k"}, []string{""}},
		{spot{4, "e", ""}, []string{"a", "a\x00a", "\x00"}},
		{spot{4, "e", "k"}, []string{"a\x00a"}},
		{spot{5, "e", "m"}, []string{""}},
		{spot{6, "f", "q"}, []string{"", "v"}},
		{spot{7, "a", "z"}, []string{"", "v"}},
	}
	var dice sample.Dice
	all := d.rows()
	for range 60000 {
		three(t, d.spots(), all[dice.Below(len(all))], all[dice.Below(len(all))], all[dice.Below(len(all))])
	}
}

func node(id string) api.Fact       { return api.Fact{Kind: api.FNode, Id: id} }
func label(id, key string) api.Fact { return api.Fact{Kind: api.FLabel, Id: id, Key: key} }

func TestP28_1_ConflictsAsTheyStand(t *testing.T) {
	prop := func(v string) api.Fact { return api.Fact{Kind: api.FProp, Id: "a", Key: "k", Value: v} }
	edge := func(id, ends string) api.Fact { return api.Fact{Kind: api.FEdge, Id: id, Value: ends} }
	mark := api.Fact{Kind: api.FMark, Id: "f", Key: "m"}
	base := []api.Fact{node("a"), node("b"), edge("e", "a\x00a"), edge("f", "a\x00a")}
	a := []api.Fact{node("a"), prop("1"), edge("e", "a\x00a")}
	b := []api.Fact{node("a"), node("b"), label("b", "x"), label("b", "y"), prop("2"), edge("e", "a\x00a"), edge("f", "a\x00a"), edge("g", "a\x00b"), mark}
	want := []api.Conflict{
		{Kind: api.FLabel, Id: "b", Key: "x", Why: api.WhyStray},
		{Kind: api.FLabel, Id: "b", Key: "y", Why: api.WhyStray},
		{Kind: api.FProp, Id: "a", Key: "k", Why: api.WhyBoth},
		{Kind: api.FEdge, Id: "g", Why: api.WhyEnd},
		{Kind: api.FMark, Id: "f", Key: "m", Why: api.WhyStray},
	}
	if got, conflicts := Facts(base, a, b); len(got) != 0 || !slices.Equal(conflicts, want) {
		t.Error(got, conflicts)
	}
}

// What stands on a thing that both changed is no conflict of its own.
func TestP28_1_OnWhatBothChanged(t *testing.T) {
	edge := func(v string) api.Fact { return api.Fact{Kind: api.FEdge, Id: "e", Value: v} }
	mark := api.Fact{Kind: api.FMark, Id: "e", Key: "m"}
	base := []api.Fact{node("a"), node("b"), edge("a\x00a")}
	a := []api.Fact{node("a"), node("b"), edge("a\x00b"), mark}
	for _, b := range [][]api.Fact{{node("a"), node("b"), edge("b\x00b")}, {node("a"), node("b")}} {
		if _, conflicts := Facts(base, a, b); !slices.Equal(conflicts, []api.Conflict{{Kind: api.FEdge, Id: "e", Why: api.WhyBoth}}) {
			t.Error(b, conflicts)
		}
	}
}

func TestP28_1_NothingHandedInIsChanged(t *testing.T) {
	var d sample.Dice
	for range 300 {
		var rows, was [3][]api.Fact
		for i := range rows {
			rows[i] = sample.Room(facts.Of(d.Graph()), api.Fact{Id: "other"})
			was[i] = sample.All(rows[i])
		}
		base := rows[d.Below(3)]
		got, conflicts := Facts(base, rows[1], rows[2])
		sample.Spoil(got)
		sample.Spoil(conflicts)
		for i := range rows {
			if !slices.Equal(sample.All(rows[i]), was[i]) {
				t.Fatal(i, rows[i])
			}
		}
	}
}

// Rows that do not rise: the call ends.
func TestP28_1_RowsThatDoNotRise(t *testing.T) {
	odd := [][]api.Fact{
		nil,
		{node("b"), node("a")},
		{node("a"), node("a"), label("a", "x"), label("a", "x")},
		{{Kind: 9}, {}, label("z", ""), {Kind: api.FEdge}, node("")},
		slices.Repeat([]api.Fact{label("b", "x"), node("a")}, 50),
	}
	for _, base := range odd {
		for _, a := range odd {
			for _, b := range odd {
				Facts(base, a, b)
			}
		}
	}
}

// drawn is a graph behind a few ops that it lets be.
func drawn(d *sample.Dice, g api.Graph, n int) api.Graph {
	for range n {
		if next, _, e := graph.Apply(g, d.Op()); e == api.OK {
			g = next
		}
	}
	return g
}

func TestP28_2_Graphs(t *testing.T) {
	var d sample.Dice
	times := [3]int{}
	for range 3000 {
		base := d.Graph()
		a, b := drawn(&d, base, d.Below(12)), drawn(&d, base, d.Below(12))
		if d.Below(10) == 0 {
			a = d.Graph()
		}
		counts, conflicts := Facts(facts.Of(base), facts.Of(a), facts.Of(b))
		g, got, e := Graphs(base, a, b)
		switch {
		case len(conflicts) > 0:
			times[0]++
			if !reflect.DeepEqual(g, api.Graph{}) || !slices.Equal(got, conflicts) || e != api.ErrConflict {
				t.Fatal(base, a, b, g, got, e)
			}
		default:
			times[1]++
			want, _ := facts.Graph(counts...)
			if !same(g, want) || len(got) != 0 || e != api.OK || graph.Check(g) != api.OK {
				t.Fatal(base, a, b, g, got, e)
			}
		}
	}
	if times[0] < 200 || times[1] < 200 {
		t.Error(times)
	}
}

func TestP28_2_ChecksErrors(t *testing.T) {
	order := api.Graph{Nodes: []api.Node{{Id: "b"}, {Id: "a"}}}
	arg := api.Graph{Nodes: []api.Node{{Id: "A"}}}
	none := api.Graph{Edges: []api.Edge{{Id: "e", From: "a", To: "a"}}}
	all := map[api.Errno]api.Graph{api.OK: {}, api.ErrOrder: order, api.ErrArg: arg, api.ErrNone: none}
	for base, x := range all {
		for a, y := range all {
			for b, z := range all {
				want := base
				if want == api.OK {
					want = a
				}
				if want == api.OK {
					want = b
				}
				if g, l, e := Graphs(x, y, z); e != want || !reflect.DeepEqual(g, api.Graph{}) || len(l) != 0 {
					t.Error(base, a, b, g, l, e)
				}
			}
		}
	}
}

func nodes(from, to int) []api.Node {
	var l []api.Node
	for i := from; i < to; i++ {
		l = append(l, api.Node{Id: "n" + strconv.Itoa(1000+i)})
	}
	return l
}

func edges(from, to int) []api.Edge {
	var l []api.Edge
	for i := from; i < to; i++ {
		l = append(l, api.Edge{Id: "e" + strconv.Itoa(1000+i), From: "n1000", To: "n1000"})
	}
	return l
}

func TestP28_2_ErrLimit(t *testing.T) {
	names := strings.Split("a b c d e f g h i", " ")
	var props []api.Prop
	for _, key := range names {
		props = append(props, api.Prop{Key: key, Value: api.Value{Kind: api.VBool}})
	}
	noded := func(labels []string, props []api.Prop) api.Graph {
		return api.Graph{Nodes: []api.Node{{Id: "a", Labels: labels, Props: props}}}
	}
	edged := func(labels []string, props []api.Prop) api.Graph {
		return api.Graph{Nodes: nodes(0, 1), Edges: []api.Edge{{Id: "e", From: "n1000", To: "n1000", Labels: labels, Props: props}}}
	}
	for i, c := range []struct {
		base, a, b api.Graph
		e          api.Errno
	}{
		{api.Graph{}, api.Graph{Nodes: nodes(0, 250)}, api.Graph{Nodes: nodes(250, 500)}, api.OK},
		{api.Graph{}, api.Graph{Nodes: nodes(0, 250)}, api.Graph{Nodes: nodes(250, 501)}, api.ErrLimit},
		{api.Graph{Nodes: nodes(0, 1)}, api.Graph{Nodes: nodes(0, 1), Edges: edges(0, 500)}, api.Graph{Nodes: nodes(0, 1), Edges: edges(500, 1000)}, api.OK},
		{api.Graph{Nodes: nodes(0, 1)}, api.Graph{Nodes: nodes(0, 1), Edges: edges(0, 500)}, api.Graph{Nodes: nodes(0, 1), Edges: edges(500, 1001)}, api.ErrLimit},
		{noded(nil, nil), noded(names[:4], nil), noded(names[4:8], nil), api.OK},
		{noded(nil, nil), noded(names[:4], nil), noded(names[4:], nil), api.ErrLimit},
		{noded(nil, nil), noded(nil, props[:4]), noded(nil, props[4:8]), api.OK},
		{noded(nil, nil), noded(nil, props[:4]), noded(nil, props[4:]), api.ErrLimit},
		{edged(nil, nil), edged(names[:4], nil), edged(names[4:8], nil), api.OK},
		{edged(nil, nil), edged(names[:4], nil), edged(names[4:], nil), api.ErrLimit},
		{edged(nil, nil), edged(nil, props[:4]), edged(nil, props[4:8]), api.OK},
		{edged(nil, nil), edged(nil, props[:4]), edged(nil, props[4:]), api.ErrLimit},
	} {
		for range 2 {
			g, l, e := Graphs(c.base, c.a, c.b)
			if e != c.e || len(l) != 0 || e != api.OK && !reflect.DeepEqual(g, api.Graph{}) {
				t.Error(i, l, e)
			}
			c.a, c.b = c.b, c.a
		}
	}
}

// A conflict is ahead of too much.
func TestP28_2_ErrConflictIsAheadOfErrLimit(t *testing.T) {
	value := func(n int) []api.Prop {
		return []api.Prop{{Key: "k", Value: api.Value{Kind: api.VInt, Num: n}}}
	}
	base := api.Graph{Nodes: nodes(0, 1)}
	a, b := api.Graph{Nodes: nodes(0, 300)}, api.Graph{Nodes: append(nodes(0, 1), nodes(300, 600)...)}
	if _, _, e := Graphs(base, a, b); e != api.ErrLimit {
		t.Error(e)
	}
	a.Nodes[0].Props, b.Nodes[0].Props = value(1), value(2)
	if g, l, e := Graphs(base, a, b); e != api.ErrConflict || !slices.Equal(l, []api.Conflict{{Kind: api.FProp, Id: "n1000", Key: "k", Why: api.WhyBoth}}) || len(g.Nodes) != 0 {
		t.Error(l, e)
	}
}

func TestP28_2_GraphsIsApart(t *testing.T) {
	var d sample.Dice
	for range 300 {
		base := sample.RoomOf(d.Graph())
		a, b := sample.RoomOf(drawn(&d, base, 4)), sample.RoomOf(drawn(&d, base, 4))
		if d.Below(3) == 0 {
			a = base
		}
		was := [3]api.Graph{sample.AllOf(base), sample.AllOf(a), sample.AllOf(b)}
		g, conflicts, _ := Graphs(base, a, b)
		sample.SpoilOf(g)
		sample.Spoil(conflicts)
		if is := [3]api.Graph{sample.AllOf(base), sample.AllOf(a), sample.AllOf(b)}; !reflect.DeepEqual(is, was) {
			t.Fatal(is, was)
		}
	}
}

func TestP28_2_Compare(t *testing.T) {
	var l []api.Conflict // as they stand
	for _, kind := range []int{math.MinInt, 0, 1, 2, 6, math.MaxInt} {
		for _, id := range []string{"", "a", "aa", "b"} {
			for _, key := range []string{"", "a", "b"} {
				for _, why := range []int{math.MinInt, -1, 1, 2, 3, math.MaxInt} {
					l = append(l, api.Conflict{Kind: kind, Id: id, Key: key, Why: why})
				}
			}
		}
	}
	for i, x := range l {
		for k, y := range l {
			want := 0
			if i < k {
				want = -1
			} else if i > k {
				want = 1
			}
			if got := Compare(x, y); got != want {
				t.Fatal(x, y, got)
			}
		}
	}
}

func TestP28_2_Show(t *testing.T) {
	kinds := []string{"", "node", "label", "property", "edge", "mark", "attribute", ""}
	whys := []string{"", "both", "end", "stray", ""}
	for k, kind := range kinds {
		for w, why := range whys {
			for _, id := range []string{"a", "n1"} {
				for _, key := range []string{"", "x"} {
					want := why + " " + kind + " " + id
					if key != "" {
						want += " " + key
					}
					if kind == "" || why == "" {
						want = ""
					}
					if got := Show(api.Conflict{Kind: k, Id: id, Key: key, Why: w}); got != want {
						t.Errorf("%q, want %q", got, want)
					}
				}
			}
		}
	}
	for _, n := range []int{-1, 4, 7, 8, 257, 1 << 32, math.MinInt, math.MaxInt} {
		for _, c := range []api.Conflict{{Kind: 1, Id: "a", Why: n}, {Kind: n + 3, Id: "a", Why: 1}} {
			if s := Show(c); s != "" && (c.Kind < 1 || c.Kind > 6 || c.Why != 1) {
				t.Errorf("%v: %q", c, s)
			}
		}
	}
	if s := Show(api.Conflict{Kind: 4, Id: "e", Why: 2}); s != "end edge e" {
		t.Errorf("%q", s)
	}
}

func TestP28_3_WhoeverChangedNothing(t *testing.T) {
	var d sample.Dice
	for range 1000 {
		base, b := d.Graph(), d.Graph()
		for _, x := range [][2]api.Graph{{base, b}, {b, base}, {b, b}} {
			if g, l, e := Graphs(base, x[0], x[1]); !same(g, b) || len(l) != 0 || e != api.OK {
				t.Fatal(base, b, g, l, e)
			}
		}
	}
}

func TestP28_3_EitherSide(t *testing.T) {
	var d sample.Dice
	for range 2000 {
		base := d.Graph()
		a, b := drawn(&d, base, 8), drawn(&d, base, 8)
		g, l, e := Graphs(base, a, b)
		h, m, f := Graphs(base, b, a)
		if !same(g, h) || !slices.Equal(l, m) || e != f {
			t.Fatal(base, a, b)
		}
	}
}
