package model

import (
	"cmp"
	"fmt"
	"maps"
	"slices"
	"strings"
	"testing"

	"pleach/api"
	"pleach/calls"
	"pleach/facts"
	"pleach/graph"
	"pleach/name"
	"pleach/sample"
	"pleach/three"
)

// called is the kind and the name of a ref.
type called struct {
	kind int
	name string
}

// world is a repository as the document tells it, by maps.
type world struct {
	commits map[int]api.Known
	refs    map[called]string
	num     int
}

func newWorld(num int) *world {
	return &world{commits: map[int]api.Known{}, refs: map[called]string{}, num: num}
}

func (w *world) seen() api.Model {
	x := api.Model{Num: w.num}
	for _, num := range slices.Sorted(maps.Keys(w.commits)) {
		x.Commits = append(x.Commits, w.commits[num])
	}
	for k, hash := range w.refs {
		x.Refs = append(x.Refs, api.Ref{Kind: k.kind, Name: k.name, Hash: hash})
	}
	slices.SortFunc(x.Refs, func(a, b api.Ref) int { return cmp.Or(a.Kind-b.Kind, strings.Compare(a.Name, b.Name)) })
	return x
}

// find is the commit of a name, which is known.
func (w *world) find(hash string) (api.Known, bool) {
	for num, k := range w.commits {
		if hash == fmt.Sprint("#", num) && !k.Gone {
			return k, true
		}
	}
	return api.Known{}, false
}

// mayBe tells whether a text is some commit's name.
func mayBe(hash string) bool {
	var n int
	_, err := fmt.Sscanf(hash, "#%d", &n)
	return err == nil && hash == fmt.Sprint("#", n)
}

// origins is all that a commit comes of.
func (w *world) origins(num int) map[int]bool {
	all := map[int]bool{num: true}
	for _, p := range w.commits[num].Parents {
		maps.Copy(all, w.origins(p))
	}
	return all
}

// base is the first one of the best of those that both come of; 0: there is none.
func (w *world) base(a, b int) int {
	ofA, ofB := w.origins(a), w.origins(b)
	maps.DeleteFunc(ofA, func(n int, _ bool) bool { return !ofB[n] })
	best := maps.Clone(ofA)
	for n := range ofA {
		for of := range w.origins(n) {
			if of != n {
				delete(best, of)
			}
		}
	}
	return append(slices.Sorted(maps.Keys(best)), 0)[0]
}

// set tells why a ref may not go from one to another one.
func (w *world) set(kind int, s, old string) api.Errno {
	is, there := w.refs[called{kind, s}]
	switch {
	case there && old == "":
		return api.ErrTwice
	case !there && old != "":
		return api.ErrNone
	case is != old:
		return api.ErrStale
	case !there && len(w.refs) >= 64:
		return api.ErrLimit
	}
	return api.OK
}

// wants is what a kind of calls needs to be told, and to be known.
type wants struct{ name, old, none, hash, other, id, note, ops bool }

func needs(kind int) (wants, bool) {
	w, ok := map[int]wants{
		api.CCommit: {name: true, old: true, none: true, note: true, ops: true}, api.CMerge: {name: true, old: true, hash: true, note: true},
		api.CBranch: {name: true, hash: true}, api.CTag: {name: true, hash: true}, api.CMove: {name: true, old: true, hash: true}, api.CDelete: {name: true, old: true}, api.CUntag: {name: true, old: true},
		api.CCheckout: {hash: true}, api.CNode: {hash: true, id: true}, api.COut: {hash: true, id: true}, api.CIn: {hash: true, id: true}, api.CLabelled: {hash: true, id: true},
		api.CDiff: {hash: true, other: true}, api.CBase: {hash: true, other: true}, api.CLog: {hash: true}, api.CRefs: {}, api.CRepack: {}, api.CCollect: {}, api.CStat: {},
	}[kind]
	return w, ok
}

// check is the errors of what a call says: ErrArg, and then ErrUnknown.
func (w *world) check(c api.Call) api.Errno {
	n, ok := needs(c.Kind)
	_, known := w.find(c.Hash)
	_, otherKnown := w.find(c.Other)
	switch {
	case !ok, n.name && name.Check(c.Name) != api.OK, n.id && name.Check(c.Id) != api.OK, n.note && len(c.Note) > 40, n.ops && len(c.Ops) > 64:
		return api.ErrArg
	case n.old && !mayBe(c.Old) && !(n.none && c.Old == ""), n.hash && !mayBe(c.Hash), n.other && !mayBe(c.Other):
		return api.ErrArg
	case n.hash && !known, n.other && !otherKnown:
		return api.ErrUnknown
	}
	return api.OK
}

func (w *world) do(c api.Call) api.Answer {
	if e := w.check(c); e != api.OK {
		return api.Answer{Err: e}
	}
	switch c.Kind {
	case api.CCommit, api.CMerge:
		return w.grow(c)
	case api.CBranch:
		return w.point(api.Branch, c.Name, "", c.Hash)
	case api.CTag:
		return w.point(api.Tag, c.Name, "", c.Hash)
	case api.CMove:
		return w.point(api.Branch, c.Name, c.Old, c.Hash)
	case api.CDelete:
		return w.point(api.Branch, c.Name, c.Old, "")
	case api.CUntag:
		return w.point(api.Tag, c.Name, c.Old, "")
	case api.CCollect:
		kept := map[int]bool{}
		for _, hash := range w.refs {
			k, _ := w.find(hash)
			maps.Copy(kept, w.origins(k.Num))
		}
		for _, num := range slices.Collect(maps.Keys(w.commits)) {
			if !kept[num] {
				w.commits[num] = api.Known{Num: num, Gone: true}
			}
		}
		return api.Answer{}
	}
	return w.asked(c)
}

func (w *world) point(kind int, s, old, now string) api.Answer {
	if e := w.set(kind, s, old); e != api.OK {
		return api.Answer{Err: e}
	}
	w.refs[called{kind, s}] = now
	if now == "" {
		delete(w.refs, called{kind, s})
	}
	return api.Answer{}
}

// grow is a commit, or a merge.
func (w *world) grow(c api.Call) api.Answer {
	e := w.set(api.Branch, c.Name, c.Old)
	switch {
	case e != api.OK:
		return api.Answer{Err: e}
	case c.Kind == api.CMerge && c.Hash == c.Old:
		return api.Answer{Err: api.ErrTwice}
	case w.num >= 1<<32:
		return api.Answer{Err: api.ErrLimit}
	}
	k := api.Known{Num: w.num, Note: c.Note}
	old, _ := w.find(c.Old)
	if c.Old != "" {
		k.Parents = []int{old.Num}
	}
	if c.Kind == api.CCommit {
		g, at, e := graph.Apply(old.Graph, c.Ops...)
		if e != api.OK {
			return api.Answer{Err: e, At: at}
		}
		k.Graph = g
	} else {
		other, _ := w.find(c.Hash)
		k.Parents = append(k.Parents, other.Num)
		g, conflicts, e := three.Graphs(w.commits[w.base(old.Num, other.Num)].Graph, old.Graph, other.Graph)
		if e != api.OK {
			return api.Answer{Err: e, Conflicts: conflicts}
		}
		k.Graph = g
	}
	w.commits[k.Num] = k
	w.num++
	w.refs[called{api.Branch, c.Name}] = fmt.Sprint("#", k.Num)
	return api.Answer{Hash: fmt.Sprint("#", k.Num)}
}

// asked is what changes nothing.
func (w *world) asked(c api.Call) api.Answer {
	var a api.Answer
	k, _ := w.find(c.Hash)
	other, _ := w.find(c.Other)
	switch c.Kind {
	case api.CCheckout:
		a.Graph = k.Graph
	case api.CNode:
		for _, n := range k.Graph.Nodes {
			if n.Id == c.Id {
				a.Graph.Nodes = []api.Node{n}
				return a
			}
		}
		a.Err = api.ErrNone
	case api.CLabelled:
		for _, n := range k.Graph.Nodes {
			if slices.Contains(n.Labels, c.Id) {
				a.Graph.Nodes = append(a.Graph.Nodes, n)
			}
		}
	case api.COut, api.CIn:
		for _, x := range k.Graph.Edges {
			if c.Kind == api.COut && x.From == c.Id || c.Kind == api.CIn && x.To == c.Id {
				a.Graph.Edges = append(a.Graph.Edges, x)
			}
		}
	case api.CDiff:
		a.Changes = facts.Diff(facts.Of(k.Graph), facts.Of(other.Graph))
	case api.CBase:
		base := w.base(k.Num, other.Num)
		if base == 0 {
			a.Err = api.ErrNone
			return a
		}
		a.Hash = fmt.Sprint("#", base)
	case api.CLog:
		for _, num := range slices.Backward(slices.Sorted(maps.Keys(w.origins(k.Num)))) {
			a.Log = append(a.Log, fmt.Sprint("#", num))
		}
	case api.CRefs:
		a.Refs = w.seen().Refs
	case api.CStat:
		known := 0
		for _, k := range w.commits {
			if !k.Gone {
				known++
			}
		}
		a.Nums = []int{known, len(w.refs), w.num}
	}
	return a
}

// met is a kind of calls, and what it was answered.
type met struct {
	kind int
	e    api.Errno
}

// runs does calls that are drawn, and holds each answer, and what there is behind it, against the world.
func runs(t *testing.T, d *sample.Dice, num, names, count int, all map[met]int) {
	t.Helper()
	s, w := New(), newWorld(num)
	s.num = num
	if names > 64 { // soon there are as many as may be
		for i := range 62 {
			c := commit(fmt.Sprint("r", i), "")
			is(t, c, s.Do(c), w.do(c))
		}
	}
	for range count {
		was := s.Seen()
		c := calls.Drawn(d, was, names)
		got, want := s.Do(c), w.do(c)
		is(t, c, got, want)
		now := s.Seen()
		if !sameSeen(now, w.seen()) {
			t.Fatal(c, now, w.seen())
		}
		changes := got.Err == api.OK && (c.Kind <= api.CUntag || c.Kind == api.CMerge || c.Kind == api.CCollect)
		if now.Num < was.Num || !changes && !sameSeen(was, now) {
			t.Fatal(c, was, now)
		}
		all[met{c.Kind, got.Err}]++
	}
}

func TestP40_2_AnyCalls(t *testing.T) {
	var d sample.Dice
	all := map[met]int{}
	for range 150 {
		runs(t, &d, 1, 4, 80, all)
	}
	for range 6 {
		runs(t, &d, 1, 150, 400, all)
		runs(t, &d, api.MaxNum-20, 4, 250, all)
	}
	for kind, l := range map[int][]api.Errno{
		api.CCommit: {api.OK, api.ErrArg, api.ErrTwice, api.ErrNone, api.ErrStale, api.ErrLimit, api.ErrBusy},
		api.CMerge:  {api.OK, api.ErrArg, api.ErrUnknown, api.ErrTwice, api.ErrNone, api.ErrStale, api.ErrConflict, api.ErrLimit},
		api.CBranch: {api.OK, api.ErrArg, api.ErrUnknown, api.ErrTwice, api.ErrLimit}, api.CTag: {api.OK, api.ErrArg, api.ErrUnknown, api.ErrTwice, api.ErrLimit},
		api.CMove:   {api.OK, api.ErrArg, api.ErrUnknown, api.ErrNone, api.ErrStale},
		api.CDelete: {api.OK, api.ErrArg, api.ErrNone, api.ErrStale}, api.CUntag: {api.OK, api.ErrArg, api.ErrNone, api.ErrStale},
		api.CCheckout: {api.OK, api.ErrArg, api.ErrUnknown}, api.CNode: {api.OK, api.ErrArg, api.ErrUnknown, api.ErrNone},
		api.COut: {api.OK, api.ErrArg, api.ErrUnknown}, api.CIn: {api.OK, api.ErrArg, api.ErrUnknown}, api.CLabelled: {api.OK, api.ErrArg, api.ErrUnknown},
		api.CDiff: {api.OK, api.ErrArg, api.ErrUnknown}, api.CBase: {api.OK, api.ErrArg, api.ErrUnknown, api.ErrNone}, api.CLog: {api.OK, api.ErrArg, api.ErrUnknown},
		api.CRefs: {api.OK}, api.CRepack: {api.OK}, api.CCollect: {api.OK}, api.CStat: {api.OK}, -1: {api.ErrArg}, 0: {api.ErrArg}, 20: {api.ErrArg}, 21: {api.ErrArg},
	} {
		for _, e := range l {
			if all[met{kind, e}] == 0 {
				t.Error("never met:", kind, e)
			}
		}
	}
}
