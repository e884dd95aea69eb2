package model

import (
	"slices"

	"pleach/api"
	"pleach/dag"
	"pleach/facts"
	"pleach/graph"
	"pleach/name"
)

func (m *model) checkout(c api.Call) api.Answer {
	l, e := m.asked(c.Hash)
	if e != api.OK {
		return refused(e)
	}
	return api.Answer{Graph: graph.Copy(l[0].Graph)}
}

// part tells a part of a graph.
func (m *model) part(c api.Call) api.Answer {
	if name.Check(c.Id) != api.OK {
		return refused(api.ErrArg)
	}
	l, e := m.asked(c.Hash)
	if e != api.OK {
		return refused(e)
	}
	g := l[0].Graph
	switch c.Kind {
	case api.COut:
		return api.Answer{Graph: api.Graph{Edges: graph.Out(g, c.Id)}}
	case api.CIn:
		return api.Answer{Graph: api.Graph{Edges: graph.In(g, c.Id)}}
	case api.CLabelled:
		return api.Answer{Graph: api.Graph{Nodes: graph.Labelled(g, c.Id)}}
	}
	n, there := graph.Node(g, c.Id)
	if !there {
		return refused(api.ErrNone)
	}
	return api.Answer{Graph: api.Graph{Nodes: []api.Node{n}}}
}

func (m *model) diff(c api.Call) api.Answer {
	l, e := m.asked(c.Hash, c.Other)
	if e != api.OK {
		return refused(e)
	}
	return api.Answer{Changes: facts.Diff(facts.Of(l[0].Graph), facts.Of(l[1].Graph))}
}

func (m *model) base(c api.Call) api.Answer {
	l, e := m.asked(c.Hash, c.Other)
	if e != api.OK {
		return refused(e)
	}
	num, e := dag.Base(m.knots(), l[0].Num, l[1].Num)
	if e != api.OK {
		return refused(e)
	}
	return api.Answer{Hash: Name(num)}
}

func (m *model) log(c api.Call) api.Answer {
	l, e := m.asked(c.Hash)
	if e != api.OK {
		return refused(e)
	}
	nums, e := dag.Back(m.knots(), l[0].Num)
	if e != api.OK {
		return refused(e)
	}
	var hashes []string
	for _, num := range nums {
		hashes = append(hashes, Name(num))
	}
	return api.Answer{Log: hashes}
}

func (m *model) told(api.Call) api.Answer { return api.Answer{Refs: slices.Clone(m.refs)} }

func (m *model) stat(api.Call) api.Answer {
	return api.Answer{Nums: []int{len(m.knots()), len(m.refs), m.num}}
}
