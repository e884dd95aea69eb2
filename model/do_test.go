package model

import (
	"fmt"
	"math"
	"reflect"
	"slices"
	"strings"
	"testing"

	"pleach/api"
	"pleach/calls"
	"pleach/facts"
	"pleach/graph"
	"pleach/sample"
)

// fault is an error, and what has a call meet it.
type fault struct {
	what  string
	e     api.Errno
	spoil func(s *State, c *api.Call)
}

// faulty spoils a call by any of these faults, which stand in the order in which the document names their errors: the first one is told, and nothing is changed.
func faulty(t *testing.T, setUp func() (*State, api.Call), l ...fault) {
	t.Helper()
	for set := range 1 << len(l) {
		s, c := setUp()
		var want api.Errno
		what := ""
		for i, f := range slices.Backward(l) { // of two that spoil one thing the first one stays
			if set>>i&1 == 1 {
				f.spoil(s, &c)
				want, what = f.e, f.what
			}
		}
		was := s.Seen()
		a := s.Do(c)
		if a.Err != want {
			t.Fatal(c, a.Err, want, what)
		}
		if want == api.OK {
			continue
		}
		if want != api.ErrConflict {
			is(t, what, a, api.Answer{Err: want, At: a.At})
		}
		if a.At != 0 && c.Kind != api.CCommit || !sameSeen(s.Seen(), was) {
			t.Fatal(c, what, a.At)
		}
	}
}

// branched is main at #4 and x at #3, both of #1, a branch y at #2 of nothing, and a tag v at #1; main and x are unlike.
func branched(t *testing.T) *State {
	t.Helper()
	s := New()
	does(t, s,
		commit("main", "", "+node a", "+label a l"), commit("y", "", "+node b"),
		ref(api.CBranch, "x", "", "#1"), commit("x", "#1", "+node c", "+edge e a c"), commit("main", "#1", "+node d", "+label d l"),
		ref(api.CTag, "v", "", "#1"))
	return s
}

// Faults of a call's parts, whatever its kind.
func badName() fault {
	return fault{"the name", api.ErrArg, func(s *State, c *api.Call) { c.Name = "A" }}
}

func longNote() fault {
	return fault{"the note", api.ErrArg, func(s *State, c *api.Call) { c.Note = strings.Repeat("n", 41) }}
}

func badOld() fault {
	return fault{"old", api.ErrArg, func(s *State, c *api.Call) { c.Old = "#01" }}
}

func noOld() fault {
	return fault{"no old", api.ErrArg, func(s *State, c *api.Call) { c.Old = "" }}
}

func badHash() fault {
	return fault{"hash", api.ErrArg, func(s *State, c *api.Call) { c.Hash = "" }}
}

func badOther() fault {
	return fault{"other", api.ErrArg, func(s *State, c *api.Call) { c.Other = "1" }}
}

func badId() fault {
	return fault{"the id", api.ErrArg, func(s *State, c *api.Call) { c.Id = "a b" }}
}

func unknown() fault {
	return fault{"an unknown one", api.ErrUnknown, func(s *State, c *api.Call) { c.Hash = "#99" }}
}

func otherUnknown() fault {
	return fault{"another unknown one", api.ErrUnknown, func(s *State, c *api.Call) { c.Other = "#99" }}
}

// gone has the ref that the call is about go first.
func gone(kind int) fault {
	return fault{"it is not there", api.ErrNone, func(s *State, c *api.Call) {
		for _, r := range s.Seen().Refs {
			s.Do(ref(kind, "main", r.Hash, ""))
			s.Do(ref(kind, "v", r.Hash, ""))
		}
	}}
}

func stale() fault {
	return fault{"another one stands there", api.ErrStale, func(s *State, c *api.Call) { c.Old = "#98" }}
}

func twice(name string) fault {
	return fault{"it is there", api.ErrTwice, func(s *State, c *api.Call) { c.Name = name }}
}

// filled has as many refs as may be.
func filled() fault {
	return fault{"too many refs", api.ErrLimit, func(s *State, c *api.Call) {
		for i := range 64 {
			s.Do(ref(api.CTag, fmt.Sprint("t", i), "", "#1"))
		}
	}}
}

func lastNumber() fault {
	return fault{"the number", api.ErrLimit, func(s *State, c *api.Call) { s.num = api.MaxNum + 1 }}
}

func TestP40_2_CommitsErrors(t *testing.T) {
	many := fault{"the ops", api.ErrArg, func(s *State, c *api.Call) { c.Ops = slices.Repeat(ops("+node z", "-node z"), 33) }}
	applied := fault{"an op", api.ErrBusy, func(s *State, c *api.Call) {
		c.Ops = ops("+node p", "+edge p p p", "-node p")
	}}
	faulty(t, func() (*State, api.Call) { return branched(t), commit("main", "#4", "+node z") }, badName(), longNote(), many, badOld(), gone(api.CDelete), stale(), lastNumber(), applied)
	faulty(t, func() (*State, api.Call) { return branched(t), commit("new", "", "+node z") }, badName(), longNote(), many, badOld(), twice("x"), filled(), lastNumber(), applied)
	for _, old := range []string{"#", "4", "x", "#04", "# 4", strings.Repeat("\x00", 32)} {
		is(t, old, branched(t).Do(commit("main", old)), api.Answer{Err: api.ErrArg})
	}
	is(t, "unknown", branched(t).Do(commit("main", "#99")), api.Answer{Err: api.ErrStale}) // what is unknown no ref names
	is(t, "unknown", branched(t).Do(commit("new", "#99")), api.Answer{Err: api.ErrNone})
}

// The place of the op is told.
func TestP40_2_CommitsAt(t *testing.T) {
	s := branched(t)
	was := s.Seen()
	for _, c := range []struct {
		l  []string
		at int
		e  api.Errno
	}{
		{[]string{"+node a"}, 0, api.ErrTwice}, {[]string{"+node z", "+edge e z q"}, 1, api.ErrNone}, {[]string{"+node z", "-node z", "-node z"}, 2, api.ErrNone},
		{[]string{"+node z", "+node A", "-node q"}, 1, api.ErrArg}, {[]string{"+node z", "+edge z z a", "+node y", "-node a"}, 3, api.ErrBusy},
		{append(slices.Repeat([]string{"+node z", "-node z"}, 31), "+node z", "+node z"), 63, api.ErrTwice},
	} {
		is(t, c.l, s.Do(commit("main", "#4", c.l...)), api.Answer{Err: c.e, At: c.at})
	}
	if x := s.Seen(); !sameSeen(x, was) {
		t.Error(x)
	}
}

func TestP40_2_Commit(t *testing.T) {
	s := New()
	is(t, "first", s.Do(commit("main", "", "+node a")), api.Answer{Hash: "#1"})
	is(t, "no ops", s.Do(commit("main", "#1")), api.Answer{Hash: "#2"})
	is(t, "64 ops", s.Do(commit("main", "#2", slices.Repeat([]string{"+node z", "-node z"}, 32)...)), api.Answer{Hash: "#3"})
	c := commit("x", "", "+node b")
	c.Note, c.Hash, c.Other, c.Id = strings.Repeat("n", 40), "not asked", "not asked", "NOT ASKED"
	is(t, "of nothing", s.Do(c), api.Answer{Hash: "#4"})
	a, b := api.Graph{Nodes: []api.Node{{Id: "a"}}}, api.Graph{Nodes: []api.Node{{Id: "b"}}}
	want := api.Model{Num: 5, Refs: []api.Ref{{Kind: api.Branch, Name: "main", Hash: "#3"}, {Kind: api.Branch, Name: "x", Hash: "#4"}}, Commits: []api.Known{
		{Num: 1, Graph: a}, {Num: 2, Parents: []int{1}, Graph: a}, {Num: 3, Parents: []int{2}, Graph: a}, {Num: 4, Graph: b, Note: c.Note},
	}}
	if x := s.Seen(); !sameSeen(x, want) {
		t.Error(x)
	}
}

// A branch that went back to an older commit goes on from there.
func TestP40_2_CommitOfAnOlderOne(t *testing.T) {
	s := branched(t)
	does(t, s, ref(api.CMove, "main", "#4", "#1"))
	is(t, "commit", s.Do(commit("main", "#1", "+node q")), api.Answer{Hash: "#5"})
	is(t, "log", s.Do(ask(api.CLog, "#5")), api.Answer{Log: []string{"#5", "#1"}})
	is(t, "checkout", s.Do(ask(api.CCheckout, "#5")), api.Answer{Graph: made(t, "+node a", "+label a l", "+node q")})
}

func TestP40_2_BranchAndTag(t *testing.T) {
	faulty(t, func() (*State, api.Call) { return branched(t), ref(api.CBranch, "new", "", "#2") }, badName(), badHash(), unknown(), twice("main"), filled())
	faulty(t, func() (*State, api.Call) { return branched(t), ref(api.CTag, "new", "", "#2") }, badName(), badHash(), unknown(), twice("v"), filled())
	s := branched(t)
	is(t, "branch", s.Do(ref(api.CBranch, "v", "not asked", "#2")), api.Answer{})
	is(t, "tag", s.Do(ref(api.CTag, "main", "not asked", "#3")), api.Answer{})
	is(t, "refs", s.Do(ask(api.CRefs, "")), api.Answer{Refs: []api.Ref{
		{Kind: 1, Name: "main", Hash: "#4"}, {Kind: 1, Name: "v", Hash: "#2"}, {Kind: 1, Name: "x", Hash: "#3"}, {Kind: 1, Name: "y", Hash: "#2"}, {Kind: 2, Name: "main", Hash: "#3"}, {Kind: 2, Name: "v", Hash: "#1"},
	}})
}

func TestP40_2_Move(t *testing.T) {
	faulty(t, func() (*State, api.Call) { return branched(t), ref(api.CMove, "main", "#4", "#3") }, badName(), badHash(), badOld(), unknown(), gone(api.CDelete), stale())
	faulty(t, func() (*State, api.Call) { return branched(t), ref(api.CMove, "main", "#4", "#4") }, badName(), badHash(), noOld(), unknown(), gone(api.CDelete), stale())
	s := branched(t)
	is(t, "move", s.Do(ref(api.CMove, "main", "#4", "#2")), api.Answer{})
	is(t, "move", s.Do(ref(api.CMove, "main", "#2", "#2")), api.Answer{})
	is(t, "an unknown old one", s.Do(ref(api.CMove, "main", "#99", "#2")), api.Answer{Err: api.ErrStale})
	is(t, "a tag", s.Do(ref(api.CMove, "v", "#1", "#2")), api.Answer{Err: api.ErrNone})
	is(t, "refs", s.Do(ask(api.CRefs, "")), api.Answer{Refs: []api.Ref{{Kind: 1, Name: "main", Hash: "#2"}, {Kind: 1, Name: "x", Hash: "#3"}, {Kind: 1, Name: "y", Hash: "#2"}, {Kind: 2, Name: "v", Hash: "#1"}}})
}

func TestP40_2_DeleteAndUntag(t *testing.T) {
	faulty(t, func() (*State, api.Call) { return branched(t), ref(api.CDelete, "main", "#4", "not asked") }, badName(), badOld(), gone(api.CDelete), stale())
	faulty(t, func() (*State, api.Call) { return branched(t), ref(api.CUntag, "v", "#1", "") }, badName(), noOld(), gone(api.CUntag), stale())
	s := branched(t)
	is(t, "a tag", s.Do(ref(api.CDelete, "v", "#1", "")), api.Answer{Err: api.ErrNone})
	is(t, "a branch", s.Do(ref(api.CUntag, "x", "#3", "")), api.Answer{Err: api.ErrNone})
	is(t, "delete", s.Do(ref(api.CDelete, "x", "#3", "")), api.Answer{})
	is(t, "untag", s.Do(ref(api.CUntag, "v", "#1", "")), api.Answer{})
	is(t, "refs", s.Do(ask(api.CRefs, "")), api.Answer{Refs: []api.Ref{{Kind: 1, Name: "main", Hash: "#4"}, {Kind: 1, Name: "y", Hash: "#2"}}})
	is(t, "it is known still", s.Do(ask(api.CLog, "#3")), api.Answer{Log: []string{"#3", "#1"}})
}

func TestP40_2_Checkout(t *testing.T) {
	faulty(t, func() (*State, api.Call) { return branched(t), ask(api.CCheckout, "#3") }, badHash(), unknown())
	s := branched(t)
	is(t, "checkout", s.Do(ask(api.CCheckout, "#3")), api.Answer{Graph: made(t, "+node a", "+label a l", "+node c", "+edge e a c")})
	does(t, s, commit("z", ""))
	is(t, "of nothing", s.Do(ask(api.CCheckout, "#5")), api.Answer{})
}

func TestP40_2_Parts(t *testing.T) {
	for _, kind := range []int{api.CNode, api.COut, api.CIn, api.CLabelled} {
		faulty(t, func() (*State, api.Call) { return branched(t), ask(kind, "#3", "a") }, badHash(), badId(), unknown())
	}
	s := New()
	does(t, s, commit("main", "", "+node a", "+node b", "+node c", "+label a l", "+label c l", "+label c m", "+prop a k 12", "+edge e a b", "+edge f a a", "+edge g b a", "+mark g l", "+attr g k 1"))
	g := made(t, "+node a", "+node b", "+node c", "+label a l", "+label c l", "+label c m", "+prop a k 12", "+edge e a b", "+edge f a a", "+edge g b a", "+mark g l", "+attr g k 1")
	nodes := func(at ...int) api.Answer {
		var a api.Answer
		for _, i := range at {
			a.Graph.Nodes = append(a.Graph.Nodes, g.Nodes[i])
		}
		return a
	}
	edges := func(at ...int) api.Answer {
		var a api.Answer
		for _, i := range at {
			a.Graph.Edges = append(a.Graph.Edges, g.Edges[i])
		}
		return a
	}
	none := api.Answer{Err: api.ErrNone}
	for id, want := range map[string][4]api.Answer{
		"a": {nodes(0), edges(0, 1), edges(1, 2), {}}, "b": {nodes(1), edges(2), edges(0), {}}, "c": {nodes(2), {}, {}, {}},
		"l": {none, {}, {}, nodes(0, 2)}, "m": {none, {}, {}, nodes(2)}, "e": {none, {}, {}, {}}, "z": {none, {}, {}, {}},
	} {
		for i, kind := range []int{api.CNode, api.COut, api.CIn, api.CLabelled} {
			is(t, id, s.Do(ask(kind, "#1", id)), want[i])
		}
	}
}

func TestP40_2_Diff(t *testing.T) {
	faulty(t, func() (*State, api.Call) { return branched(t), ask(api.CDiff, "#3", "#4") }, badHash(), badOther(), unknown(), otherUnknown())
	s := branched(t)
	is(t, "diff", s.Do(ask(api.CDiff, "#3", "#4")), api.Answer{Changes: []api.Change{
		{Kind: api.FNode, Id: "c", Was: true}, {Kind: api.FNode, Id: "d", Is: true}, {Kind: api.FLabel, Id: "d", Key: "l", Is: true}, {Kind: api.FEdge, Id: "e", Was: true, Old: "a\x00c"},
	}})
	is(t, "of one", s.Do(ask(api.CDiff, "#3", "#3")), api.Answer{})
	var d sample.Dice
	for range 50 {
		a, b := d.Graph(), d.Graph()
		s.commits[0].Graph, s.commits[1].Graph = a, b
		is(t, "diff", s.Do(ask(api.CDiff, "#1", "#2")), api.Answer{Changes: facts.Diff(facts.Of(a), facts.Of(b))})
	}
}

func TestP40_2_Base(t *testing.T) {
	none := fault{"none", api.ErrNone, func(s *State, c *api.Call) { c.Other = "#2" }}
	faulty(t, func() (*State, api.Call) { return branched(t), ask(api.CBase, "#3", "#4") }, badHash(), badOther(), unknown(), otherUnknown(), none)
	s := branched(t)
	for _, c := range [][3]string{{"#3", "#4", "#1"}, {"#4", "#3", "#1"}, {"#4", "#1", "#1"}, {"#4", "#4", "#4"}} {
		is(t, c, s.Do(ask(api.CBase, c[0], c[1])), api.Answer{Hash: c[2]})
	}
	is(t, "none", s.Do(ask(api.CBase, "#2", "#4")), api.Answer{Err: api.ErrNone})
	does(t, s, merge("main", "#4", "#3"), merge("x", "#3", "#4")) // of several best ones the first
	is(t, "of both", s.Do(ask(api.CBase, "#5", "#6")), api.Answer{Hash: "#3"})
	is(t, "of both", s.Do(ask(api.CBase, "#6", "#5")), api.Answer{Hash: "#3"})
}

func TestP40_2_Log(t *testing.T) {
	faulty(t, func() (*State, api.Call) { return branched(t), ask(api.CLog, "#3") }, badHash(), unknown())
	s := branched(t)
	does(t, s, merge("main", "#4", "#3"), commit("main", "#5"))
	for hash, want := range map[string][]string{"#1": {"#1"}, "#2": {"#2"}, "#3": {"#3", "#1"}, "#5": {"#5", "#4", "#3", "#1"}, "#6": {"#6", "#5", "#4", "#3", "#1"}} {
		is(t, hash, s.Do(ask(api.CLog, hash)), api.Answer{Log: want})
	}
}

func TestP40_2_MergesErrors(t *testing.T) {
	setUp := func() (*State, api.Call) {
		s := New()
		does(t, s, commit("main", "", "+node a"), ref(api.CBranch, "x", "", "#1"), ref(api.CBranch, "z", "", "#1"), commit("main", "#1", "+label a l"), commit("x", "#1", "+node c"), commit("z", "#1", "-node a"))
		return s, merge("main", "#2", "#3")
	}
	same := fault{"hash is old", api.ErrTwice, func(s *State, c *api.Call) { c.Hash = c.Old }}
	torn := fault{"a conflict", api.ErrConflict, func(s *State, c *api.Call) { c.Hash = "#4" }}
	for _, old := range []fault{badOld(), noOld()} {
		faulty(t, setUp, badName(), old, badHash(), longNote(), unknown(), gone(api.CDelete), stale(), same, lastNumber(), torn)
	}
}

func TestP40_2_Merge(t *testing.T) {
	s := branched(t)
	c := merge("main", "#4", "#3")
	c.Note, c.Other, c.Id, c.Ops = strings.Repeat("n", 40), "not asked", "NOT ASKED", make([]api.Op, 99)
	is(t, "merge", s.Do(c), api.Answer{Hash: "#5"})
	both := made(t, "+node a", "+label a l", "+node c", "+edge e a c", "+node d", "+label d l")
	is(t, "both", s.Do(ask(api.CCheckout, "#5")), api.Answer{Graph: both})
	if k := s.Seen().Commits[4]; !slices.Equal(k.Parents, []int{4, 3}) || k.Note != c.Note {
		t.Error(k)
	}
	is(t, "the other way", s.Do(merge("x", "#3", "#4")), api.Answer{Hash: "#6"})
	is(t, "both", s.Do(ask(api.CCheckout, "#6")), api.Answer{Graph: both})
	is(t, "of what it comes of", s.Do(merge("x", "#6", "#1")), api.Answer{Hash: "#7"})
	is(t, "of what comes of it", s.Do(merge("main", "#5", "#7")), api.Answer{Hash: "#8"})
	is(t, "both", s.Do(ask(api.CCheckout, "#8")), api.Answer{Graph: both})
	is(t, "of nothing in common", s.Do(merge("main", "#8", "#2")), api.Answer{Hash: "#9"})
	g, _, _ := graph.Apply(both, ops("+node b")...)
	is(t, "both", s.Do(ask(api.CCheckout, "#9")), api.Answer{Graph: g})
	is(t, "log", s.Do(ask(api.CLog, "#9")), api.Answer{Log: []string{"#9", "#8", "#7", "#6", "#5", "#4", "#3", "#2", "#1"}})
	is(t, "refs", s.Do(ask(api.CRefs, "")), api.Answer{Refs: []api.Ref{{Kind: 1, Name: "main", Hash: "#9"}, {Kind: 1, Name: "x", Hash: "#7"}, {Kind: 1, Name: "y", Hash: "#2"}, {Kind: 2, Name: "v", Hash: "#1"}}})
}

// What both dropped, and what one of them dropped, is gone, as it was there in the base.
func TestP40_2_MergeGoesByTheBase(t *testing.T) {
	s := New()
	does(t, s, commit("main", "", "+node a", "+node b", "+node c", "+node d"), ref(api.CBranch, "x", "", "#1"), commit("main", "#1", "-node a", "-node b"), commit("x", "#1", "-node a", "-node c"))
	is(t, "merge", s.Do(merge("main", "#2", "#3")), api.Answer{Hash: "#4"})
	is(t, "what is left", s.Do(ask(api.CCheckout, "#4")), api.Answer{Graph: made(t, "+node d")})
	does(t, s, commit("x", "#3", "+node c"))
	is(t, "again", s.Do(merge("main", "#4", "#5")), api.Answer{Hash: "#6"}) // the base is x's #3 now
	is(t, "what is left", s.Do(ask(api.CCheckout, "#6")), api.Answer{Graph: made(t, "+node c", "+node d")})
}

func TestP40_2_MergesConflicts(t *testing.T) {
	s := New()
	does(t, s, commit("main", "", "+node a", "+node b", "+node c", "+prop a k 1"), ref(api.CBranch, "x", "", "#1"),
		commit("main", "#1", "+prop a k 12", "-node b", "+node d", "+edge f c c"), commit("x", "#1", "+prop a k 123", "+label b l", "+edge e a b", "+edge f a a"))
	was := s.Seen()
	conflicts := []api.Conflict{
		{Kind: api.FLabel, Id: "b", Key: "l", Why: api.WhyStray}, {Kind: api.FProp, Id: "a", Key: "k", Why: api.WhyBoth}, {Kind: api.FEdge, Id: "e", Why: api.WhyEnd}, {Kind: api.FEdge, Id: "f", Why: api.WhyBoth},
	}
	is(t, "conflicts", s.Do(merge("main", "#2", "#3")), api.Answer{Err: api.ErrConflict, Conflicts: conflicts})
	is(t, "conflicts", s.Do(merge("x", "#3", "#2")), api.Answer{Err: api.ErrConflict, Conflicts: conflicts})
	if !sameSeen(s.Seen(), was) {
		t.Error(s.Seen())
	}
	s.num = api.MaxNum + 1
	is(t, "no number", s.Do(merge("x", "#3", "#2")), api.Answer{Err: api.ErrLimit}) // ahead of them
}

// What comes of both may have too much.
func TestP40_2_MergesLimit(t *testing.T) {
	s := New()
	does(t, s, commit("main", "", "+node a", "+label a a", "+label a b", "+label a c", "+label a d"), ref(api.CBranch, "x", "", "#1"),
		commit("main", "#1", "+label a e", "+label a f", "+label a g"), commit("x", "#1", "+label a h", "+label a i"))
	is(t, "nine labels", s.Do(merge("main", "#2", "#3")), api.Answer{Err: api.ErrLimit})
	does(t, s, commit("x", "#3", "-label a i"))
	is(t, "eight", s.Do(merge("main", "#2", "#4")), api.Answer{Hash: "#5"})
}

func TestP40_2_RefsRepackAndStat(t *testing.T) {
	s := branched(t)
	was := s.Seen()
	odd := func(kind int) api.Call { // nothing of it plays a part
		return api.Call{Kind: kind, Name: "A", Old: "x", Hash: "y", Other: "z", Note: strings.Repeat("n", 99), Id: "B", Ops: make([]api.Op, 99)}
	}
	is(t, "refs", s.Do(odd(api.CRefs)), api.Answer{Refs: was.Refs})
	is(t, "repack", s.Do(odd(api.CRepack)), api.Answer{})
	is(t, "stat", s.Do(odd(api.CStat)), api.Answer{Nums: []int{4, 4, 5}})
	if !sameSeen(s.Seen(), was) {
		t.Error(s.Seen())
	}
	is(t, "collect", s.Do(odd(api.CCollect)), api.Answer{})
	is(t, "stat", s.Do(odd(api.CStat)), api.Answer{Nums: []int{4, 4, 5}})
	is(t, "no refs", New().Do(odd(api.CRefs)), api.Answer{})
	for _, kind := range []int{0, -1, 20, 21, 255, 257, math.MaxInt, math.MinInt} {
		is(t, kind, s.Do(odd(kind)), api.Answer{Err: api.ErrArg})
		is(t, kind, s.Do(api.Call{Kind: kind}), api.Answer{Err: api.ErrArg})
	}
}

func TestP40_2_Collect(t *testing.T) {
	for _, c := range []struct {
		gone string // which refs go first
		left []int
	}{
		{"", []int{1, 2, 3, 4}}, {"main", []int{1, 2, 3}}, {"x", []int{1, 2, 4}}, {"y", []int{1, 3, 4}}, {"v", []int{1, 2, 3, 4}}, {"main x", []int{1, 2}}, {"main x v", []int{2}}, {"main x y", []int{1}}, {"main x y v", nil},
	} {
		s := branched(t)
		for _, r := range s.Seen().Refs {
			if slices.Contains(strings.Fields(c.gone), r.Name) {
				does(t, s, ref(map[int]int{api.Branch: api.CDelete, api.Tag: api.CUntag}[r.Kind], r.Name, r.Hash, ""))
			}
		}
		refs := s.Seen().Refs
		for range 2 {
			is(t, "collect", s.Do(api.Call{Kind: api.CCollect}), api.Answer{})
			x := s.Seen()
			if !reflect.DeepEqual(x.Refs, refs) || x.Num != 5 || len(x.Commits) != 4 {
				t.Error(c.gone, x)
			}
			for _, k := range x.Commits {
				left := slices.Contains(c.left, k.Num)
				want := api.ErrUnknown
				if left {
					want = api.OK
				}
				if k.Gone == left || s.Do(ask(api.CCheckout, Name(k.Num))).Err != want || s.Do(ask(api.CDiff, "#2", Name(k.Num))).Err != want && slices.Contains(c.left, 2) {
					t.Error(c.gone, k)
				}
			}
			is(t, "stat", s.Do(ask(api.CStat, "")), api.Answer{Nums: []int{len(c.left), len(refs), 5}})
		}
		is(t, "the next number", s.Do(commit("new", "")), api.Answer{Hash: "#5"})
	}
}

// What was collected no ref may name any more, by whatever call.
func TestP40_2_WhatWasCollectedIsUnknown(t *testing.T) {
	s := branched(t)
	does(t, s, ref(api.CDelete, "x", "#3", ""), api.Call{Kind: api.CCollect})
	for _, c := range []api.Call{
		ref(api.CBranch, "x", "", "#3"), ref(api.CTag, "x", "", "#3"), ref(api.CMove, "main", "#4", "#3"), merge("main", "#4", "#3"), ask(api.CLog, "#3"), ask(api.CBase, "#1", "#3"), ask(api.CBase, "#3", "#1"),
		ask(api.CDiff, "#1", "#3"), ask(api.CDiff, "#3", "#3"), ask(api.CNode, "#3", "a"), ask(api.COut, "#3", "a"), ask(api.CIn, "#3", "a"), ask(api.CLabelled, "#3", "a"),
	} {
		is(t, c, s.Do(c), api.Answer{Err: api.ErrUnknown})
	}
}

func TestP40_2_TheLastNumber(t *testing.T) {
	s := New()
	s.num = api.MaxNum
	is(t, "the last one", s.Do(commit("main", "", "+node a")), api.Answer{Hash: "#4294967295"})
	was := s.Seen()
	is(t, "no number", s.Do(commit("main", "#4294967295")), api.Answer{Err: api.ErrLimit})
	is(t, "no number", s.Do(commit("x", "")), api.Answer{Err: api.ErrLimit})
	is(t, "log", s.Do(ask(api.CLog, "#4294967295")), api.Answer{Log: []string{"#4294967295"}})
	if x := s.Seen(); !sameSeen(x, was) || x.Num != 1<<32 {
		t.Error(x)
	}
}

// What is handed in is neither changed nor kept, and what is answered is nobody else's.
func TestP40_2_Memory(t *testing.T) {
	var d sample.Dice
	s, twin := New(), New()
	for range 400 {
		c := calls.Drawn(&d, twin.Seen(), 3)
		c.Ops = sample.Room(c.Ops, api.Op{Id: "other"})
		was := sample.All(c.Ops)
		want := twin.Do(c)
		got := s.Do(c)
		is(t, c, got, want)
		if !slices.Equal(sample.All(c.Ops), was) {
			t.Fatal(c)
		}
		sample.Spoil(c.Ops)
		calls.Spoil(got)
		spoilSeen(s.Seen())
		spoilSeen(s.Copy().Seen())
		if !sameSeen(s.Seen(), twin.Seen()) {
			t.Fatal(c)
		}
	}
}

func spoilSeen(x api.Model) {
	for _, k := range x.Commits {
		sample.Spoil(k.Parents)
		sample.SpoilOf(k.Graph)
	}
	sample.Spoil(x.Commits)
	sample.Spoil(x.Refs)
}

// Whoever is refused has changed nothing; what is asked changes nothing; numbers rise. (TestP40_2_AnyCalls and faulty hold it, too.)
func TestP40_3_WhatChangesNothing(t *testing.T) {
	var d sample.Dice
	s := branched(t)
	for range 1500 {
		was := s.Seen()
		c := calls.Drawn(&d, was, 5)
		a := s.Do(c)
		now := s.Seen()
		asks := c.Kind >= api.CCheckout && c.Kind <= api.CStat && c.Kind != api.CMerge && c.Kind != api.CCollect
		if (a.Err != api.OK || asks) && !sameSeen(was, now) {
			t.Fatal(c, a)
		}
		made := a.Err == api.OK && (c.Kind == api.CCommit || c.Kind == api.CMerge)
		if made != (now.Num == was.Num+1) || !made && now.Num != was.Num || made && a.Hash != Name(was.Num) {
			t.Fatal(c, a, now.Num)
		}
		for i, k := range now.Commits {
			if i > 0 && k.Num <= now.Commits[i-1].Num || slices.ContainsFunc(k.Parents, func(n int) bool { return n >= k.Num }) {
				t.Fatal(now)
			}
		}
	}
}
