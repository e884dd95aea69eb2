// Package sample draws graphs and ops for the tests of other packages, and shows what these do to the memory that they are handed. It calls none of the layers, so that any of their tests can use it.
package sample

import (
	"slices"
	"strconv"

	"pleach/api"
)

// Size is how many nodes, and how many edges, a graph that is drawn has at most.
const Size = 6

// Dice are numbers that follow from a first one: in each run the same.
type Dice uint32

// Below is the next number, from 0 on and below n.
func (d *Dice) Below(n int) int {
	*d = *d*1664525 + 1013904223
	return int(uint32(*d)>>8) % n
}

// Node is a node's Id, Edge an edge's, Label a label, Key a property's key.
func (d *Dice) Node() string  { return "n" + strconv.Itoa(d.Below(Size)) }
func (d *Dice) Edge() string  { return "e" + strconv.Itoa(d.Below(Size)) }
func (d *Dice) Label() string { return "l" + strconv.Itoa(d.Below(3)) }
func (d *Dice) Key() string   { return "k" + strconv.Itoa(d.Below(3)) }

// Value is a value, of each kind a few.
func (d *Dice) Value() api.Value {
	l := []api.Value{{Kind: api.VBool}, {Kind: api.VInt, Num: -1}, {Kind: api.VInt, Num: 300}, {Kind: api.VText}, {Kind: api.VText, Text: "t\x00"}}
	return l[d.Below(len(l))]
}

// row is up to a few of what is drawn, rising, each once.
func row(most int, draw func() string) []string {
	var l []string
	for range most {
		l = append(l, draw())
	}
	slices.Sort(l)
	return slices.Compact(l)
}

// props is properties of a few keys.
func (d *Dice) props() []api.Prop {
	var l []api.Prop
	for _, key := range row(d.Below(4), d.Key) {
		l = append(l, api.Prop{Key: key, Value: d.Value()})
	}
	return l
}

// Graph is a graph that may be.
func (d *Dice) Graph() api.Graph {
	var g api.Graph
	for _, id := range row(d.Below(2*Size), d.Node) {
		g.Nodes = append(g.Nodes, api.Node{Id: id, Labels: row(d.Below(3), d.Label), Props: d.props()})
	}
	if len(g.Nodes) == 0 {
		return g
	}
	for _, id := range row(d.Below(2*Size), d.Edge) {
		from, to := g.Nodes[d.Below(len(g.Nodes))].Id, g.Nodes[d.Below(len(g.Nodes))].Id
		g.Edges = append(g.Edges, api.Edge{Id: id, From: from, To: to, Labels: row(d.Below(3), d.Label), Props: d.props()})
	}
	return g
}

// Op is an op that names what may be, of any kind; whether such a graph lets it be is open.
func (d *Dice) Op() api.Op {
	o := api.Op{Kind: 1 + d.Below(api.OpUnsetEdge), Id: d.Node()}
	switch o.Kind {
	case api.OpEdge:
		o.Id, o.From, o.To = d.Edge(), d.Node(), d.Node()
	case api.OpDropEdge, api.OpMark, api.OpUnmark, api.OpSetEdge, api.OpUnsetEdge:
		o.Id = d.Edge()
	}
	switch o.Kind {
	case api.OpLabel, api.OpUnlabel, api.OpMark, api.OpUnmark:
		o.Key = d.Label()
	case api.OpSet, api.OpSetEdge:
		o.Key, o.Value = d.Key(), d.Value()
	case api.OpUnset, api.OpUnsetEdge:
		o.Key = d.Key()
	}
	return o
}

// Room is the same list with room behind its end, where two others stand.
func Room[T any](l []T, other T) []T {
	n := len(l)
	return append(slices.Clip(slices.Clone(l)), other, other)[:n]
}

// All is a copy of a list, the room behind its end included.
func All[T any](l []T) []T { return slices.Clone(l[:cap(l)]) }

// Spoil empties a list, the room behind its end included.
func Spoil[T any](l []T) { clear(l[:cap(l)]) }

// each puts other lists in the places of all labels and properties of a graph.
func each(g *api.Graph, labels func(l []string) []string, props func(l []api.Prop) []api.Prop) {
	for i := range g.Nodes {
		n := &g.Nodes[i]
		n.Labels, n.Props = labels(n.Labels), props(n.Props)
	}
	for i := range g.Edges {
		x := &g.Edges[i]
		x.Labels, x.Props = labels(x.Labels), props(x.Props)
	}
}

// RoomOf is a copy of a graph, each of whose lists has Room.
func RoomOf(g api.Graph) api.Graph {
	g.Nodes, g.Edges = Room(g.Nodes, api.Node{Id: "other"}), Room(g.Edges, api.Edge{Id: "other"})
	each(&g, func(l []string) []string { return Room(l, "other") }, func(l []api.Prop) []api.Prop { return Room(l, api.Prop{Key: "other"}) })
	return g
}

// Plain is a copy of a graph, whose empty lists are nil.
func Plain(g api.Graph) api.Graph {
	g.Nodes, g.Edges = slices.Concat(g.Nodes), slices.Concat(g.Edges)
	each(&g, func(l []string) []string { return slices.Concat(l) }, func(l []api.Prop) []api.Prop { return slices.Concat(l) })
	return g
}

// AllOf is a copy of a graph with All of each of its lists.
func AllOf(g api.Graph) api.Graph {
	g.Nodes, g.Edges = All(g.Nodes), All(g.Edges)
	each(&g, All[string], All[api.Prop])
	return g
}

// SpoilOf spoils all lists of a graph, those of labels and properties first.
func SpoilOf(g api.Graph) {
	each(&g, func(l []string) []string {
		Spoil(l)
		return l
	}, func(l []api.Prop) []api.Prop {
		Spoil(l)
		return l
	})
	Spoil(g.Nodes)
	Spoil(g.Edges)
}
