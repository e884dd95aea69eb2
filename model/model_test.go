package model

import (
	"fmt"
	"math"
	"reflect"
	"slices"
	"strings"
	"testing"

	"pleach/api"
	"pleach/calls"
	"pleach/graph"
	"pleach/sample"
)

// plain is what a state has, its empty lists nil.
func plain(x api.Model) api.Model {
	x.Commits, x.Refs = slices.Concat(x.Commits), slices.Concat(x.Refs)
	for i := range x.Commits {
		k := &x.Commits[i]
		k.Parents, k.Graph = slices.Concat(k.Parents), sample.Plain(k.Graph)
	}
	return x
}

// sameSeen tells whether two states have the same; nil and empty lists are.
func sameSeen(a, b api.Model) bool { return reflect.DeepEqual(plain(a), plain(b)) }

// is tells whether an answer is the one that is wanted, in all its fields.
func is(t *testing.T, what any, got, want api.Answer) {
	t.Helper()
	if !reflect.DeepEqual(calls.Plain(got), calls.Plain(want)) {
		t.Errorf("%v: %+v, want %+v", what, got, want)
	}
}

// does does calls of which none is refused, and answers the last one.
func does(t *testing.T, s *State, l ...api.Call) api.Answer {
	t.Helper()
	var a api.Answer
	for _, c := range l {
		a = s.Do(c)
		if a.Err != api.OK {
			t.Fatal(c, a)
		}
	}
	return a
}

func number(n int) api.Value { return api.Value{Kind: api.VInt, Num: n} }

// op is an op of words: its sign and kind, an Id, and what else it names.
func op(s string) api.Op {
	f := append(strings.Fields(s), "", "")
	kinds := map[string]int{
		"+node": api.OpNode, "-node": api.OpDropNode, "+edge": api.OpEdge, "-edge": api.OpDropEdge, "+label": api.OpLabel, "-label": api.OpUnlabel,
		"+mark": api.OpMark, "-mark": api.OpUnmark, "+prop": api.OpSet, "-prop": api.OpUnset, "+attr": api.OpSetEdge, "-attr": api.OpUnsetEdge,
	}
	o := api.Op{Kind: kinds[f[0]], Id: f[1]}
	switch o.Kind {
	case api.OpEdge:
		o.From, o.To = f[2], f[3]
	case api.OpSet, api.OpSetEdge:
		o.Key, o.Value = f[2], number(len(f[3]))
	default:
		o.Key = f[2]
	}
	return o
}

func ops(l ...string) []api.Op {
	var all []api.Op
	for _, s := range l {
		all = append(all, op(s))
	}
	return all
}

// commit is a call of a branch, from what it names (empty: from nothing), with ops.
func commit(name, old string, l ...string) api.Call {
	return api.Call{Kind: api.CCommit, Name: name, Old: old, Ops: ops(l...)}
}

func merge(name, old, hash string) api.Call {
	return api.Call{Kind: api.CMerge, Name: name, Old: old, Hash: hash}
}

// ref is a call of a ref: it comes, moves or goes.
func ref(kind int, name, old, hash string) api.Call {
	return api.Call{Kind: kind, Name: name, Old: old, Hash: hash}
}

// ask is a call that asks for a commit, and for one more, or a node or label.
func ask(kind int, hash string, more ...string) api.Call {
	c := api.Call{Kind: kind, Hash: hash}
	for _, s := range more {
		c.Other, c.Id = s, s
	}
	return c
}

// made is a graph of ops.
func made(t *testing.T, l ...string) api.Graph {
	t.Helper()
	g, _, e := graph.Apply(api.Graph{}, ops(l...)...)
	if e != api.OK {
		t.Fatal(l, e)
	}
	return g
}

func TestP40_1_Name(t *testing.T) {
	for n, want := range map[int]string{1: "#1", 7: "#7", 10: "#10", 305: "#305", api.MaxNum: "#4294967295", api.MaxNum + 1: "#4294967296"} {
		if got := Name(n); got != want {
			t.Error(n, got)
		}
	}
	for _, n := range []int{0, 1, 2, 9, 10, 11, 99, 100, 1 << 31, api.MaxNum, api.MaxNum + 1, math.MaxInt, -1, -10, math.MinInt} {
		if got, ok := Number(Name(n)); got != n || !ok {
			t.Error(n, got, ok)
		}
	}
}

func TestP40_1_NumberOfNone(t *testing.T) {
	for _, s := range []string{
		"", "#", "1", "12", "##1", "#01", "#07", "#00", "#-0", "#+1", "#-01", "# 1", "#1 ", " #1", "#1#", "#1_0", "#0x1", "#1e1", "#1.", "#1.0", "#a", "#one", "#\x00", "#1\x00", "#\xff1", "#\uff11", "#--1", "#-",
		"#9223372036854775808", "#-9223372036854775809", "#18446744073709551617", "#" + strings.Repeat("9", 999), "1#", strings.Repeat("\x01", 32),
	} {
		if n, ok := Number(s); n != 0 || ok {
			t.Errorf("%q: %d %v", s, n, ok)
		}
	}
}

func TestP40_1_New(t *testing.T) {
	s, other := New(), New()
	does(t, s, commit("main", "", "+node a")) // which the other one knows nothing of
	if x := other.Seen(); !sameSeen(x, api.Model{Num: 1}) {
		t.Error(x)
	}
	is(t, "stat", other.Do(ask(api.CStat, "")), api.Answer{Nums: []int{0, 0, 1}})
}

func TestP40_1_Seen(t *testing.T) {
	s := New()
	first := commit("main", "", "+node a", "+label a x", "+prop a k 1")
	first.Note = "first"
	last := merge("main", "#1", "#3")
	last.Note = strings.Repeat("\xff", 40)
	does(t, s, first, ref(api.CBranch, "x", "", "#1"), commit("y", ""), commit("x", "#1", "+node b", "+edge e a b"), last, ref(api.CTag, "x", "", "#2"))
	a := api.Node{Id: "a", Labels: []string{"x"}, Props: []api.Prop{{Key: "k", Value: number(1)}}}
	both := api.Graph{Nodes: []api.Node{a, {Id: "b"}}, Edges: []api.Edge{{Id: "e", From: "a", To: "b"}}}
	refs := []api.Ref{{Kind: 1, Name: "main", Hash: "#4"}, {Kind: 1, Name: "x", Hash: "#3"}, {Kind: 1, Name: "y", Hash: "#2"}, {Kind: 2, Name: "x", Hash: "#2"}}
	want := api.Model{Refs: refs, Num: 5, Commits: []api.Known{
		{Num: 1, Graph: api.Graph{Nodes: []api.Node{a}}, Note: "first"}, {Num: 2}, {Num: 3, Parents: []int{1}, Graph: both}, {Num: 4, Parents: []int{1, 3}, Graph: both, Note: last.Note},
	}}
	if x := s.Seen(); !sameSeen(x, want) {
		t.Error(x)
	}
	does(t, s, ref(api.CDelete, "main", "#4", ""), ref(api.CDelete, "x", "#3", ""), api.Call{Kind: api.CCollect})
	want.Commits = []api.Known{{Num: 1, Gone: true}, {Num: 2}, {Num: 3, Gone: true}, {Num: 4, Gone: true}}
	want.Refs = refs[2:]
	if x := s.Seen(); !sameSeen(x, want) {
		t.Error(x)
	}
}

func TestP40_1_Copy(t *testing.T) {
	for more := range 6 { // whatever room is left behind the lists' ends
		s := New()
		does(t, s, commit("x", "", "+node b"), commit("main", "", "+node a"))
		for i := range more {
			does(t, s, commit(fmt.Sprint("y", i), ""))
		}
		other, was := s.Copy(), s.Seen()
		if !sameSeen(other.Seen(), was) {
			t.Error(other.Seen())
		}
		last := Name(was.Num)
		does(t, s, commit("main", "#2", "+node c"), ref(api.CDelete, "x", "#1", ""), api.Call{Kind: api.CCollect}, ref(api.CMove, "main", last, "#2"))
		now := s.Seen()
		if sameSeen(now, was) || !sameSeen(other.Seen(), was) {
			t.Error(other.Seen())
		}
		does(t, other, commit("main", "#2", "+node d"), commit("x", "#1"), ref(api.CDelete, "main", last, ""), api.Call{Kind: api.CCollect})
		if !sameSeen(s.Seen(), now) {
			t.Error(s.Seen())
		}
	}
	if x := New().Copy().Seen(); !sameSeen(x, New().Seen()) {
		t.Error(x)
	}
}

func TestP40_1_NoState(t *testing.T) {
	var s *State
	for kind := -1; kind < 22; kind++ {
		is(t, kind, s.Do(api.Call{Kind: kind}), api.Answer{Err: api.ErrNil})
		is(t, kind, s.Do(commit("main", "", "+node a")), api.Answer{Err: api.ErrNil})
	}
	if x := s.Seen(); !sameSeen(x, api.Model{}) || s.Copy() != nil {
		t.Error(x, s.Copy())
	}
}

// Of a plain one nothing more is said than that it has nothing, and that its calls end.
func TestP40_1_PlainState(t *testing.T) {
	if x := new(State).Seen(); !sameSeen(x, api.Model{}) {
		t.Error(x)
	}
	is(t, "stat", new(State).Do(ask(api.CStat, "")), api.Answer{Nums: []int{0, 0, 0}})
	var d sample.Dice
	s := &State{}
	for range 3000 {
		s.Do(calls.Drawn(&d, s.Seen(), 4))
		if d.Below(50) == 0 {
			s = s.Copy()
		}
	}
}
