package model

import (
	"pleach/api"
	"pleach/dag"
	"pleach/graph"
	"pleach/name"
	"pleach/refs"
	"pleach/three"
)

// set has a ref name something else.
func (m *model) set(kind int, s, old, now string) api.Answer {
	l, e := refs.Set(m.refs, kind, s, old, now)
	if e != api.OK {
		return refused(e)
	}
	m.refs = l
	return api.Answer{}
}

func (m *model) place(c api.Call) api.Answer {
	if name.Check(c.Name) != api.OK {
		return refused(api.ErrArg)
	}
	if _, e := m.asked(c.Hash); e != api.OK {
		return refused(e)
	}
	return m.set(kindOf(c.Kind), c.Name, "", c.Hash)
}

func (m *model) move(c api.Call) api.Answer {
	if name.Check(c.Name) != api.OK || isNone(c.Old) {
		return refused(api.ErrArg)
	}
	if _, e := m.asked(c.Hash); e != api.OK {
		return refused(e)
	}
	return m.set(api.Branch, c.Name, c.Old, c.Hash)
}

func (m *model) drop(c api.Call) api.Answer {
	if name.Check(c.Name) != api.OK || isNone(c.Old) {
		return refused(api.ErrArg)
	}
	return m.set(kindOf(c.Kind), c.Name, c.Old, "")
}

// ahead is the refs when a branch names the commit that is made next; full tells that no more are.
func (m *model) ahead(c api.Call) ([]api.Ref, api.Errno) {
	return refs.Set(m.refs, api.Branch, c.Name, c.Old, Name(m.num))
}

func (m *model) full() bool { return m.num > api.MaxNum }

// made is a commit more, with the next number, and the refs that are there then.
func (m *model) made(k api.Known, l []api.Ref) api.Answer {
	k.Num = m.num
	m.commits = append(m.commits, k)
	m.refs = l
	m.num++
	return api.Answer{Hash: Name(k.Num)}
}

func (m *model) commit(c api.Call) api.Answer {
	if name.Check(c.Name) != api.OK || len(c.Note) > api.MaxNote || len(c.Ops) > api.MaxOps || c.Old != "" && isNone(c.Old) {
		return refused(api.ErrArg)
	}
	l, e := m.ahead(c)
	switch {
	case e != api.OK:
		return refused(e)
	case m.full():
		return refused(api.ErrLimit)
	}
	k := api.Known{Note: c.Note}
	old, there := m.known(c.Old) // what a branch names is known
	if there {
		k.Parents = []int{old.Num}
	}
	g, at, e := graph.Apply(old.Graph, c.Ops...)
	if e != api.OK {
		return api.Answer{Err: e, At: at}
	}
	k.Graph = g
	return m.made(k, l)
}

func (m *model) merge(c api.Call) api.Answer {
	if name.Check(c.Name) != api.OK || isNone(c.Old) || len(c.Note) > api.MaxNote {
		return refused(api.ErrArg)
	}
	asked, e := m.asked(c.Hash)
	if e != api.OK {
		return refused(e)
	}
	l, e := m.ahead(c)
	switch {
	case e != api.OK:
		return refused(e)
	case c.Hash == c.Old:
		return refused(api.ErrTwice)
	case m.full():
		return refused(api.ErrLimit)
	}
	old, _ := m.known(c.Old)
	other := asked[0]
	g, conflicts, e := three.Graphs(m.common(old.Num, other.Num), old.Graph, other.Graph)
	if e != api.OK {
		return api.Answer{Err: e, Conflicts: conflicts}
	}
	return m.made(api.Known{Parents: []int{old.Num, other.Num}, Graph: g, Note: c.Note}, l)
}

// common is the graph of what two commits came of; of nothing, if they came of no common one.
func (m *model) common(a, b int) api.Graph {
	num, e := dag.Base(m.knots(), a, b)
	if e != api.OK {
		return api.Graph{}
	}
	base, _ := m.known(Name(num))
	return base.Graph
}

func (m *model) collect(api.Call) api.Answer {
	kept := map[int]struct{}{}
	knots := m.knots()
	for _, hash := range refs.Hashes(m.refs...) {
		num, _ := Number(hash)
		l, _ := dag.Back(knots, num)
		for _, n := range l {
			kept[n] = struct{}{}
		}
	}
	for i, k := range m.commits {
		if _, is := kept[k.Num]; !is {
			m.commits[i] = api.Known{Num: k.Num, Gone: true}
		}
	}
	return api.Answer{}
}
