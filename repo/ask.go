package repo

import (
	"cmp"
	"slices"

	"pleach/api"
	"pleach/commit"
	"pleach/dag"
	"pleach/gdiff"
	"pleach/mark"
	"pleach/name"
	"pleach/quad"
	"pleach/query"
)

func (r *Repo) checkout(c api.Call) api.Answer {
	l, e := r.known(c.Hash)
	if e != api.OK {
		return refused(e)
	}
	g, e := quad.Read(r.shelf, l[0].Graph)
	return api.Answer{Err: e, Graph: g}
}

// part tells a part of a graph.
func (r *Repo) part(c api.Call) api.Answer {
	if name.Check(c.Id) != api.OK {
		return refused(api.ErrArg)
	}
	l, e := r.known(c.Hash)
	if e != api.OK {
		return refused(e)
	}
	var g api.Graph
	switch root := l[0].Graph; c.Kind {
	case api.COut:
		g.Edges, e = query.Out(r.shelf, root, c.Id)
	case api.CIn:
		g.Edges, e = query.In(r.shelf, root, c.Id)
	case api.CLabelled:
		g.Nodes, e = query.Labelled(r.shelf, root, c.Id)
	default:
		g.Nodes = make([]api.Node, 1)
		g.Nodes[0], e = query.Node(r.shelf, root, c.Id)
	}
	if e != api.OK {
		return refused(e)
	}
	return api.Answer{Graph: g}
}

func (r *Repo) diff(c api.Call) api.Answer {
	l, e := r.known(c.Hash, c.Other)
	if e != api.OK {
		return refused(e)
	}
	changes, e := gdiff.Diff(r.shelf, l[0].Graph, l[1].Graph)
	return api.Answer{Err: e, Changes: changes}
}

// common is the name of what two commits came of; ErrNone, if they came of no common one.
func (r *Repo) common(a, b string) (string, api.Errno) {
	knots, names, e := commit.Knots(r.shelf, a, b)
	if e != api.OK {
		return "", e
	}
	num, e := dag.Base(knots, knots[slices.Index(names, a)].Num, knots[slices.Index(names, b)].Num)
	if e != api.OK {
		return "", e
	}
	at, _ := slices.BinarySearchFunc(knots, num, func(k api.Knot, num int) int { return cmp.Compare(k.Num, num) })
	return names[at], api.OK
}

func (r *Repo) base(c api.Call) api.Answer {
	if _, e := r.known(c.Hash, c.Other); e != api.OK {
		return refused(e)
	}
	hash, e := r.common(c.Hash, c.Other)
	return api.Answer{Err: e, Hash: hash}
}

// history tells all that a commit comes of, the last one first.
func (r *Repo) history(c api.Call) api.Answer {
	if _, e := r.known(c.Hash); e != api.OK {
		return refused(e)
	}
	_, names, e := commit.Knots(r.shelf, c.Hash)
	slices.Reverse(names)
	return api.Answer{Err: e, Log: names}
}

func (r *Repo) named(api.Call) api.Answer { return api.Answer{Refs: slices.Clone(r.refs)} }

func (r *Repo) stat(api.Call) api.Answer {
	return api.Answer{Nums: []int{mark.Commits(r.shelf), len(r.refs), r.num}}
}
