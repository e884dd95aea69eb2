package graph

import (
	"maps"
	"math"
	"reflect"
	"slices"
	"strings"
	"testing"

	"pleach/api"
	"pleach/elem"
	"pleach/sample"
)

func allKinds() []int {
	return []int{api.OpNode, api.OpDropNode, api.OpEdge, api.OpDropEdge, api.OpLabel, api.OpUnlabel, api.OpMark, api.OpUnmark, api.OpSet, api.OpUnset, api.OpSetEdge, api.OpUnsetEdge}
}

func oddKinds() []int { return []int{0, 13, 14, -1, 256 + 1, math.MaxInt, math.MinInt} }

func hasKey(kind int) bool   { return kind >= api.OpLabel }
func hasValue(kind int) bool { return kind == api.OpSet || kind == api.OpSetEdge }

// badValues may not be.
func badValues() []api.Value {
	return []api.Value{{}, {Kind: 4}, {Kind: api.VBool, Num: 2}, {Kind: api.VInt, Text: "1"}, {Kind: api.VText, Text: strings.Repeat("a", 65)}}
}

// full is an op of a kind, all of whose fields are right.
func full(kind int) api.Op {
	return api.Op{Kind: kind, Id: "a", From: "b", To: "c", Key: "k", Value: api.Value{Kind: api.VInt, Num: 1}}
}

func TestP26_3_Right(t *testing.T) {
	for _, kind := range allKinds() {
		o := full(kind)
		if e := Right(o); e != api.OK {
			t.Error(kind, e)
		}
		for _, s := range badNames() {
			for _, c := range []struct {
				name  *string
				plays bool
			}{
				{&o.Id, true},
				{&o.From, kind == api.OpEdge},
				{&o.To, kind == api.OpEdge},
				{&o.Key, hasKey(kind)},
			} {
				was := *c.name
				*c.name = s
				if e := Right(o); (e != api.OK) != c.plays || e != api.OK && e != api.ErrArg {
					t.Errorf("%v: %v", o, e)
				}
				*c.name = was
			}
		}
		for _, v := range badValues() {
			o.Value = v
			if e := Right(o); (e != api.OK) != hasValue(kind) || e != api.OK && e != api.ErrArg {
				t.Errorf("%v: %v", o, e)
			}
		}
		least := api.Op{Kind: kind, Id: "abcdefghijkl"}
		if kind == api.OpEdge {
			least.From, least.To = "0", "-"
		}
		if hasKey(kind) {
			least.Key = "abcdefghijkl"
		}
		if hasValue(kind) {
			least.Value.Kind = api.VBool
		}
		if e := Right(least); e != api.OK {
			t.Error(least, e)
		}
	}
	for _, kind := range oddKinds() {
		if e := Right(full(kind)); e != api.ErrArg {
			t.Error(kind, e)
		}
	}
}

func TestP26_3_OfEdge(t *testing.T) {
	of := []int{api.OpMark, api.OpUnmark, api.OpSetEdge, api.OpUnsetEdge}
	for _, kind := range append(allKinds(), oddKinds()...) {
		if OfEdge(kind) != slices.Contains(of, kind) {
			t.Error(kind)
		}
	}
}

// turned is what Turn is to answer.
func turned(labels []string, props []api.Prop, o api.Op) ([]string, []api.Prop, api.Errno) {
	e := api.ErrArg
	switch o.Kind {
	case api.OpLabel, api.OpMark:
		labels, e = elem.Label(labels, o.Key)
	case api.OpUnlabel, api.OpUnmark:
		labels, e = elem.Unlabel(labels, o.Key)
	case api.OpSet, api.OpSetEdge:
		props, e = elem.Set(props, o.Key, o.Value)
	case api.OpUnset, api.OpUnsetEdge:
		props, e = elem.Unset(props, o.Key)
	}
	if e != api.OK {
		return nil, nil, e
	}
	return labels, props, api.OK
}

func TestP26_3_Turn(t *testing.T) {
	eight := strings.Split("a b c d e f g h", " ")
	var eightProps []api.Prop
	for i, s := range eight {
		eightProps = append(eightProps, prop(s, i))
	}
	for _, labels := range [][]string{nil, {"a"}, {"b", "k"}, {"", "A", "z z"}, eight} {
		for _, props := range [][]api.Prop{nil, {prop("a", 1)}, {prop("b", 1), prop("k", 2)}, eightProps} {
			for _, kind := range append(allKinds(), oddKinds()...) {
				for _, key := range append(badNames(), "a", "b", "h", "i", "k", "z z") {
					for _, v := range []api.Value{{Kind: api.VInt, Num: 7}, {}} {
						o := api.Op{Kind: kind, Key: key, Value: v} // neither its Id nor its nodes play a part
						turn(t, labels, props, o)
					}
				}
			}
		}
	}
}

// turn holds Turn against turned, of lists that have room.
func turn(t *testing.T, labels []string, props []api.Prop, o api.Op) {
	t.Helper()
	l, p := sample.Room(labels, "other"), sample.Room(props, api.Prop{Key: "other"})
	wasL, wasP := sample.All(l), sample.All(p)
	wantL, wantP, wantE := turned(labels, props, o)
	gotL, gotP, e := Turn(l, p, o)
	if !slices.Equal(gotL, wantL) || !slices.Equal(gotP, wantP) || e != wantE {
		t.Errorf("%q %v %v: %q %v %v", labels, props, o, gotL, gotP, e)
	}
	sample.Spoil(gotL)
	sample.Spoil(gotP)
	if !slices.Equal(sample.All(l), wasL) || !slices.Equal(sample.All(p), wasP) {
		t.Errorf("%v: %q %v", o, sample.All(l), sample.All(p))
	}
}

// plain is a graph as maps, by which the document's table is told once more.
type plain struct {
	nodes map[string]api.Node
	edges map[string]api.Edge
}

func plainOf(g api.Graph) plain {
	p := plain{map[string]api.Node{}, map[string]api.Edge{}}
	for _, n := range g.Nodes {
		p.nodes[n.Id] = n
	}
	for _, x := range g.Edges {
		p.edges[x.Id] = x
	}
	return p
}

func (p plain) graph() api.Graph {
	var g api.Graph
	for _, id := range slices.Sorted(maps.Keys(p.nodes)) {
		g.Nodes = append(g.Nodes, p.nodes[id])
	}
	for _, id := range slices.Sorted(maps.Keys(p.edges)) {
		g.Edges = append(g.Edges, p.edges[id])
	}
	return g
}

func (p plain) busy(id string) bool {
	for _, x := range p.edges {
		if x.From == id || x.To == id {
			return true
		}
	}
	return false
}

func (p plain) do(o api.Op) api.Errno {
	n, isNode := p.nodes[o.Id]
	x, isEdge := p.edges[o.Id]
	_, from := p.nodes[o.From]
	_, to := p.nodes[o.To]
	switch {
	case o.Kind == api.OpNode && isNode, o.Kind == api.OpEdge && isEdge:
		return api.ErrTwice
	case o.Kind == api.OpNode && len(p.nodes) == 500:
		return api.ErrLimit
	case o.Kind == api.OpNode:
		p.nodes[o.Id] = api.Node{Id: o.Id}
	case o.Kind == api.OpDropNode && !isNode, o.Kind == api.OpDropEdge && !isEdge, o.Kind == api.OpEdge && !(from && to):
		return api.ErrNone
	case o.Kind == api.OpDropNode && p.busy(o.Id):
		return api.ErrBusy
	case o.Kind == api.OpDropNode:
		delete(p.nodes, o.Id)
	case o.Kind == api.OpEdge && len(p.edges) == 1000:
		return api.ErrLimit
	case o.Kind == api.OpEdge:
		p.edges[o.Id] = api.Edge{Id: o.Id, From: o.From, To: o.To}
	case o.Kind == api.OpDropEdge:
		delete(p.edges, o.Id)
	case OfEdge(o.Kind):
		var e api.Errno
		x.Labels, x.Props, e = turned(x.Labels, x.Props, o)
		if !isEdge {
			return api.ErrNone
		}
		p.edges[o.Id] = x
		return e
	default:
		var e api.Errno
		n.Labels, n.Props, e = turned(n.Labels, n.Props, o)
		if !isNode {
			return api.ErrNone
		}
		p.nodes[o.Id] = n
		return e
	}
	return api.OK
}

// apply is what Apply is to answer, of a graph that may be and ops that are right.
func apply(g api.Graph, ops []api.Op) (api.Graph, int, api.Errno) {
	p := plainOf(Copy(g))
	for i, o := range ops {
		if e := p.do(o); e != api.OK {
			return api.Graph{}, i, e
		}
	}
	return p.graph(), 0, api.OK
}

// holds holds Apply against apply.
func holds(t *testing.T, g api.Graph, ops ...api.Op) {
	t.Helper()
	want, wantAt, wantE := apply(g, ops)
	got, at, e := Apply(g, ops...)
	if !same(got, want) || at != wantAt || e != wantE {
		t.Fatalf("%v, %v: %v %v %v, want %v %v", g, ops, got, at, e, wantAt, wantE)
	}
}

func TestP26_4_ApplyOneOp(t *testing.T) {
	var d sample.Dice
	for range 20000 {
		holds(t, d.Graph(), d.Op())
	}
}

func TestP26_4_ApplyManyOps(t *testing.T) {
	var d sample.Dice
	for range 300 {
		g := d.Graph()
		holds(t, g)
		var ops []api.Op
		for range 60 { // those that are let be, and behind them any one
			o := d.Op()
			holds(t, g, append(slices.Clone(ops), o)...)
			if _, _, e := apply(g, append(slices.Clone(ops), o)); e == api.OK {
				ops = append(ops, o)
			}
		}
	}
}

func op(kind int, id string, more ...string) api.Op {
	o := api.Op{Kind: kind, Id: id}
	switch {
	case kind == api.OpEdge:
		o.From, o.To = more[0], more[1]
	case hasKey(kind):
		o.Key = more[0]
	}
	if hasValue(kind) {
		o.Value = api.Value{Kind: api.VText, Text: more[1]}
	}
	return o
}

func TestP26_4_TheTable(t *testing.T) {
	g, at, e := Apply(api.Graph{},
		op(api.OpNode, "b"), op(api.OpNode, "a"), op(api.OpNode, "c"),
		op(api.OpLabel, "b", "y"), op(api.OpLabel, "b", "x"), op(api.OpLabel, "a", "x"), op(api.OpUnlabel, "b", "y"),
		op(api.OpSet, "a", "k", "1"), op(api.OpSet, "a", "j", "2"), op(api.OpSet, "a", "k", "3"), op(api.OpSet, "b", "k", "4"), op(api.OpUnset, "b", "k"),
		op(api.OpEdge, "f", "a", "b"), op(api.OpEdge, "e", "b", "b"), op(api.OpEdge, "g", "c", "a"), op(api.OpEdge, "a", "a", "a"),
		op(api.OpMark, "f", "y"), op(api.OpMark, "f", "x"), op(api.OpUnmark, "f", "y"),
		op(api.OpSetEdge, "e", "k", "5"), op(api.OpSetEdge, "e", "l", "6"), op(api.OpUnsetEdge, "e", "k"),
		op(api.OpDropEdge, "g"), op(api.OpDropNode, "c"), op(api.OpDropEdge, "a"))
	text := func(key, s string) []api.Prop {
		return []api.Prop{{Key: key, Value: api.Value{Kind: api.VText, Text: s}}}
	}
	want := api.Graph{
		Nodes: []api.Node{{Id: "a", Labels: []string{"x"}, Props: append(text("j", "2"), text("k", "3")...)}, {Id: "b", Labels: []string{"x"}}},
		Edges: []api.Edge{{Id: "e", From: "b", To: "b", Props: text("l", "6")}, {Id: "f", From: "a", To: "b", Labels: []string{"x"}}},
	}
	if !same(g, want) || at != 0 || e != api.OK {
		t.Fatal(g, at, e)
	}
	for i, c := range []struct {
		o api.Op
		e api.Errno
	}{
		{op(api.OpNode, "a"), api.ErrTwice},
		{op(api.OpDropNode, "c"), api.ErrNone},
		{op(api.OpDropNode, "e"), api.ErrNone}, // an edge is no node
		{op(api.OpDropNode, "a"), api.ErrBusy}, // an edge goes from it
		{op(api.OpDropNode, "b"), api.ErrBusy},
		{op(api.OpEdge, "e", "a", "b"), api.ErrTwice},
		{op(api.OpEdge, "e", "b", "b"), api.ErrTwice},
		{op(api.OpEdge, "e", "c", "c"), api.ErrTwice}, // ahead of ErrNone
		{op(api.OpEdge, "h", "c", "b"), api.ErrNone},
		{op(api.OpEdge, "h", "b", "c"), api.ErrNone},
		{op(api.OpEdge, "h", "e", "b"), api.ErrNone},
		{op(api.OpDropEdge, "h"), api.ErrNone},
		{op(api.OpDropEdge, "a"), api.ErrNone}, // a node is no edge
		{op(api.OpLabel, "c", "x"), api.ErrNone},
		{op(api.OpLabel, "e", "x"), api.ErrNone},
		{op(api.OpLabel, "a", "x"), api.ErrTwice},
		{op(api.OpUnlabel, "c", "x"), api.ErrNone},
		{op(api.OpUnlabel, "a", "y"), api.ErrNone},
		{op(api.OpSet, "c", "k", "1"), api.ErrNone},
		{op(api.OpSet, "e", "k", "1"), api.ErrNone},
		{op(api.OpUnset, "c", "k"), api.ErrNone},
		{op(api.OpUnset, "b", "k"), api.ErrNone},
		{op(api.OpMark, "a", "x"), api.ErrNone},
		{op(api.OpMark, "f", "x"), api.ErrTwice},
		{op(api.OpUnmark, "a", "x"), api.ErrNone},
		{op(api.OpUnmark, "f", "y"), api.ErrNone},
		{op(api.OpSetEdge, "a", "k", "1"), api.ErrNone},
		{op(api.OpUnsetEdge, "e", "k"), api.ErrNone},
		{op(api.OpUnsetEdge, "a", "j"), api.ErrNone},
	} {
		for place := range 3 { // with ops ahead of it, and behind it one that may not be
			ops := []api.Op{op(api.OpNode, "y"), op(api.OpNode, "z")}[:place]
			ops = append(ops, c.o, api.Op{})
			if x, at, e := Apply(g, ops...); !reflect.DeepEqual(x, api.Graph{}) || at != place || e != c.e {
				t.Error(i, x, at, e)
			}
		}
	}
}

func TestP26_4_RightsError(t *testing.T) {
	g := api.Graph{Nodes: named("a", "b"), Edges: edges("e a b")}
	for _, kind := range oddKinds() {
		refused(t, g, full(kind))
	}
	for _, kind := range allKinds() {
		for _, s := range badNames() {
			o := full(kind)
			o.Id = s
			refused(t, g, o)
			if o = full(kind); hasKey(kind) { // ahead of the table's, as no such thing is there
				o.Key, o.Id = s, "z"
				refused(t, g, o)
			}
			if kind == api.OpEdge {
				refused(t, g, api.Op{Kind: kind, Id: "e", From: s, To: "b"}) // ahead of ErrTwice
				refused(t, g, api.Op{Kind: kind, Id: "e", From: "z", To: s})
			}
		}
	}
	for _, v := range badValues() {
		refused(t, g, api.Op{Kind: api.OpSet, Id: "z", Key: "k", Value: v})
		refused(t, g, api.Op{Kind: api.OpSetEdge, Id: "z", Key: "k", Value: v})
	}
}

// refused tells that an op is ErrArg, behind one that is not.
func refused(t *testing.T, g api.Graph, o api.Op) {
	t.Helper()
	if x, at, e := Apply(g, op(api.OpNode, "y"), o); !reflect.DeepEqual(x, api.Graph{}) || at != 1 || e != api.ErrArg {
		t.Errorf("%v: %v %v %v", o, x, at, e)
	}
}

func TestP26_4_ChecksError(t *testing.T) {
	for _, g := range oddGraphs() {
		want := Check(g)
		for _, ops := range [][]api.Op{nil, {op(api.OpNode, "z")}, {op(api.OpNode, "z"), {}}, {{}}} {
			if x, at, e := Apply(g, ops...); !reflect.DeepEqual(x, api.Graph{}) || at != 0 || e != want || e == api.OK {
				t.Error(g, x, at, e)
			}
		}
	}
}

func TestP26_4_Limits(t *testing.T) {
	g := many(500, 1000)
	holds(t, g)
	holds(t, g, op(api.OpNode, "a"))     // ErrLimit
	holds(t, g, op(api.OpNode, "n1000")) // ErrTwice, ahead of it
	holds(t, g, op(api.OpEdge, "a", "n1000", "n1001"))
	holds(t, g, op(api.OpEdge, "e1000", "n1000", "n1001"))
	holds(t, g, op(api.OpEdge, "a", "n1000", "a")) // ErrNone, ahead of ErrLimit
	holds(t, g, op(api.OpDropEdge, "e1500"), op(api.OpEdge, "a", "n1000", "n1001"), op(api.OpEdge, "b", "n1000", "n1001"))
	holds(t, many(500, 0), op(api.OpDropNode, "n1100"), op(api.OpNode, "a"), op(api.OpNode, "b"))
	holds(t, many(499, 999), op(api.OpNode, "a"), op(api.OpEdge, "a", "a", "a"), op(api.OpNode, "b"))
	holds(t, many(499, 999), op(api.OpNode, "a"), op(api.OpEdge, "a", "a", "a"), op(api.OpEdge, "b", "a", "a"))
	var ops []api.Op
	for _, s := range strings.Split("a b c d e f g h i", " ") {
		ops = append(ops, op(api.OpLabel, "n1000", s), op(api.OpSet, "n1001", s, s), op(api.OpMark, "e1000", s), op(api.OpSetEdge, "e1001", s, s))
	}
	for i := range 4 { // the ninth label or property
		holds(t, many(2, 2), append(slices.Clone(ops[:32]), ops[32+i])...)
	}
	holds(t, many(2, 2), append(ops[:32], op(api.OpSet, "n1001", "a", "x"), op(api.OpSetEdge, "e1001", "h", "x"), op(api.OpLabel, "n1000", "h"))...)
}

func TestP26_4_ALoopIsBusy(t *testing.T) {
	g := api.Graph{Nodes: named("a", "b"), Edges: edges("e a a", "f a b")}
	holds(t, g, op(api.OpDropEdge, "f"), op(api.OpDropNode, "a"))
	holds(t, g, op(api.OpDropEdge, "e"), op(api.OpDropNode, "a"))
	holds(t, g, op(api.OpDropEdge, "e"), op(api.OpDropNode, "b"))
	holds(t, g, op(api.OpDropEdge, "f"), op(api.OpDropNode, "b"), op(api.OpDropEdge, "e"), op(api.OpDropNode, "a"), op(api.OpNode, "a"), op(api.OpDropNode, "a"))
}

// A node that comes once more has none of what it had.
func TestP26_4_WhatGoesIsGone(t *testing.T) {
	g, _, e := Apply(api.Graph{}, op(api.OpNode, "a"), op(api.OpLabel, "a", "x"), op(api.OpSet, "a", "k", "1"), op(api.OpDropNode, "a"), op(api.OpNode, "a"),
		op(api.OpEdge, "e", "a", "a"), op(api.OpMark, "e", "x"), op(api.OpSetEdge, "e", "k", "1"), op(api.OpDropEdge, "e"), op(api.OpEdge, "e", "a", "a"))
	if !same(g, api.Graph{Nodes: named("a"), Edges: edges("e a a")}) || e != api.OK {
		t.Error(g, e)
	}
}

func TestP26_4_NothingHandedInIsChanged(t *testing.T) {
	var d sample.Dice
	for range 1000 {
		g := sample.RoomOf(d.Graph())
		was := sample.AllOf(g)
		var ops []api.Op
		for range 8 {
			if o := d.Op(); len(ops) == 0 || d.Below(2) == 0 {
				if _, _, e := Apply(g, append(slices.Clone(ops), o)...); e == api.OK {
					ops = append(ops, o)
				}
			}
		}
		ops = sample.Room(ops, api.Op{Id: "other"})
		wasOps := sample.All(ops)
		got, _, e := Apply(g, ops...)
		again, _, _ := Apply(g, ops...)
		if !same(got, again) || e != api.OK {
			t.Fatal(g, ops, e)
		}
		sample.SpoilOf(got)
		if !reflect.DeepEqual(sample.AllOf(g), was) || !slices.Equal(sample.All(ops), wasOps) {
			t.Fatal(g, ops)
		}
	}
}

func TestP26_5_WhatApplyAnswersMayBe(t *testing.T) {
	var d sample.Dice
	for range 500 {
		start := d.Graph()
		g := start
		var ops []api.Op
		for range 30 {
			o := d.Op()
			one, at, eOne := Apply(g, o)
			all, atAll, eAll := Apply(start, append(slices.Clone(ops), o)...)
			if !same(one, all) || eOne != eAll || eAll != api.OK && atAll != len(ops) || at != 0 {
				t.Fatal(start, ops, o, eOne, eAll)
			}
			if eOne == api.OK {
				g, ops = one, append(ops, o)
			}
			if e := Check(g); e != api.OK {
				t.Fatal(g, e)
			}
		}
	}
}
