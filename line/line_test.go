package line

import (
	"fmt"
	"math"
	"reflect"
	"slices"
	"strings"
	"testing"

	"pleach/api"
	"pleach/calls"
	"pleach/model"
	"pleach/sample"
)

// lines is lines, and the calls that they are: of each kind of calls and ops, and of what may be empty.
func lines() map[string]api.Call {
	text := func(s string) api.Value { return api.Value{Kind: api.VText, Text: s} }
	return map[string]api.Call{
		"commit main - -":          {Kind: api.CCommit, Name: "main"},
		"commit main #1 -":         {Kind: api.CCommit, Name: "main", Old: "#1"},
		"commit main - note":       {Kind: api.CCommit, Name: "main", Note: "note"},
		"commit - #12 --":          {Kind: api.CCommit, Name: "-", Old: "#12", Note: "--"},
		"branch x #1":              {Kind: api.CBranch, Name: "x", Hash: "#1"},
		"tag v-1 #4294967296":      {Kind: api.CTag, Name: "v-1", Hash: "#4294967296"},
		"move x #1 #2":             {Kind: api.CMove, Name: "x", Old: "#1", Hash: "#2"},
		"delete x #1":              {Kind: api.CDelete, Name: "x", Old: "#1"},
		"untag x #1":               {Kind: api.CUntag, Name: "x", Old: "#1"},
		"checkout #3":              {Kind: api.CCheckout, Hash: "#3"},
		"node #3 a":                {Kind: api.CNode, Hash: "#3", Id: "a"},
		"out #3 -":                 {Kind: api.COut, Hash: "#3", Id: "-"},
		"in #3 0":                  {Kind: api.CIn, Hash: "#3", Id: "0"},
		"labelled #3 abcdefghijkl": {Kind: api.CLabelled, Hash: "#3", Id: "abcdefghijkl"},
		"diff #3 #4":               {Kind: api.CDiff, Hash: "#3", Other: "#4"},
		"merge x #1 #2 -":          {Kind: api.CMerge, Name: "x", Old: "#1", Hash: "#2"},
		"merge x #1 #2 a-b":        {Kind: api.CMerge, Name: "x", Old: "#1", Hash: "#2", Note: "a-b"},
		"base #4 #3":               {Kind: api.CBase, Hash: "#4", Other: "#3"},
		"log #0":                   {Kind: api.CLog, Hash: "#0"},
		"refs":                     {Kind: api.CRefs},
		"repack":                   {Kind: api.CRepack},
		"collect":                  {Kind: api.CCollect},
		"stat":                     {Kind: api.CStat},
		"commit main - - ; +node a ; -node b ; +edge e a b ; -edge f": {Kind: api.CCommit, Name: "main", Ops: []api.Op{
			{Kind: api.OpNode, Id: "a"}, {Kind: api.OpDropNode, Id: "b"}, {Kind: api.OpEdge, Id: "e", From: "a", To: "b"}, {Kind: api.OpDropEdge, Id: "f"},
		}},
		"commit main #1 n ; +label a x ; -label a y ; +mark e z ; -mark e -": {Kind: api.CCommit, Name: "main", Old: "#1", Note: "n", Ops: []api.Op{
			{Kind: api.OpLabel, Id: "a", Key: "x"}, {Kind: api.OpUnlabel, Id: "a", Key: "y"}, {Kind: api.OpMark, Id: "e", Key: "z"}, {Kind: api.OpUnmark, Id: "e", Key: "-"},
		}},
		"commit main - - ; +prop a k 'x ; +prop a k #612062 ; +prop a k -7 ; +prop a k true ; +prop a k ' ; -prop a k": {Kind: api.CCommit, Name: "main", Ops: []api.Op{
			{Kind: api.OpSet, Id: "a", Key: "k", Value: text("x")}, {Kind: api.OpSet, Id: "a", Key: "k", Value: text("a b")}, {Kind: api.OpSet, Id: "a", Key: "k", Value: api.Value{Kind: api.VInt, Num: -7}},
			{Kind: api.OpSet, Id: "a", Key: "k", Value: api.Value{Kind: api.VBool, Num: 1}}, {Kind: api.OpSet, Id: "a", Key: "k", Value: text("")}, {Kind: api.OpUnset, Id: "a", Key: "k"},
		}},
		"commit main - - ; +attr e k 0 ; +attr e k false ; +attr e k #203b20 ; -attr e k": {Kind: api.CCommit, Name: "main", Ops: []api.Op{
			{Kind: api.OpSetEdge, Id: "e", Key: "k", Value: api.Value{Kind: api.VInt}}, {Kind: api.OpSetEdge, Id: "e", Key: "k", Value: api.Value{Kind: api.VBool}},
			{Kind: api.OpSetEdge, Id: "e", Key: "k", Value: text(" ; ")}, {Kind: api.OpUnsetEdge, Id: "e", Key: "k"},
		}},
	}
}

// same tells whether two calls are the same; nil and empty lists are.
func same(a, b api.Call) bool {
	ops := slices.Equal(a.Ops, b.Ops)
	a.Ops, b.Ops = nil, nil
	return ops && reflect.DeepEqual(a, b)
}

func TestP43_1_Lines(t *testing.T) {
	met := map[int]bool{}
	for s, c := range lines() {
		if got, e := Show(c); got != s || e != api.OK {
			t.Errorf("%+v: %q, want %q, %v", c, got, s, e)
		}
		if got, e := Parse(s); !same(got, c) || e != api.OK {
			t.Errorf("%q: %+v, want %+v, %v", s, got, c, e)
		}
		if e := Check(c); e != api.OK {
			t.Error(c, e)
		}
		met[c.Kind] = true
		for _, o := range c.Ops {
			met[100+o.Kind] = true
		}
	}
	if len(met) != 19+12 {
		t.Error(met)
	}
}

// As many ops as may be, and one more.
func TestP43_1_ManyOps(t *testing.T) {
	s := "commit main - -" + strings.Repeat(" ; +node a", 64)
	c, e := Parse(s)
	if e != api.OK || len(c.Ops) != 64 {
		t.Error(e, len(c.Ops))
	}
	if got, e := Show(c); got != s || e != api.OK {
		t.Error(e, got)
	}
	if c, e := Parse(s + " ; +node a"); e != api.ErrLine || !same(c, api.Call{}) {
		t.Error(e)
	}
	c.Ops = append(c.Ops, c.Ops[0])
	if Check(c) != api.ErrArg {
		t.Error("65 ops")
	}
	if s, e := Show(c); s != "" || e != api.ErrArg {
		t.Error(s, e)
	}
}

// fields is all texts of a call.
func fields(c *api.Call) map[string]*string {
	return map[string]*string{"Name": &c.Name, "Old": &c.Old, "Hash": &c.Hash, "Other": &c.Other, "Note": &c.Note, "Id": &c.Id}
}

// What each kind's line names: what may stand there, and, where it names none, that nothing may.
func TestP43_2_Check(t *testing.T) {
	may := map[string][]string{ // what may stand in a field, by what it is
		"name": {"a", "-", "abcdefghijkl", "0-9"}, "commit": {"#1", "#0", "#4294967296", "#9223372036854775807"}, "note": {"", "a", "--", "abcdefghijkl"}, "none": {""},
	}
	mayNot := map[string][]string{
		"name": {"", "A", "a b", "abcdefghijklm", "#1", "a;", "\x00"}, "commit": {"", "1", "#", "#01", "#9223372036854775808", "x", " #1", "-", strings.Repeat("x", 32)},
		"note": {"-", "A", "a b", "abcdefghijklm", ";"}, "none": {"a", "-", "#1", " "},
	}
	may["or none"] = append(may["commit"], "")
	mayNot["or none"] = slices.DeleteFunc(slices.Clone(mayNot["commit"]), func(s string) bool { return s == "" })
	for kind, l := range map[int]map[string]string{
		api.CCommit: {"Name": "name", "Old": "or none", "Note": "note"}, api.CBranch: {"Name": "name", "Hash": "commit"}, api.CTag: {"Name": "name", "Hash": "commit"},
		api.CMove: {"Name": "name", "Old": "commit", "Hash": "commit"}, api.CDelete: {"Name": "name", "Old": "commit"}, api.CUntag: {"Name": "name", "Old": "commit"}, api.CCheckout: {"Hash": "commit"},
		api.CNode: {"Hash": "commit", "Id": "name"}, api.COut: {"Hash": "commit", "Id": "name"}, api.CIn: {"Hash": "commit", "Id": "name"}, api.CLabelled: {"Hash": "commit", "Id": "name"},
		api.CDiff: {"Hash": "commit", "Other": "commit"}, api.CMerge: {"Name": "name", "Old": "commit", "Hash": "commit", "Note": "note"}, api.CBase: {"Hash": "commit", "Other": "commit"},
		api.CLog: {"Hash": "commit"}, api.CRefs: {}, api.CRepack: {}, api.CCollect: {}, api.CStat: {},
	} {
		c := api.Call{Kind: kind}
		of := fields(&c)
		what := func(field string) string {
			if s, named := l[field]; named {
				return s
			}
			return "none"
		}
		for field, s := range of {
			*s = may[what(field)][0]
		}
		if e := Check(c); e != api.OK {
			t.Error(c, e)
		}
		for field, s := range of {
			was := *s
			for _, *s = range may[what(field)] {
				if e := Check(c); e != api.OK {
					t.Errorf("%d %s %q: %v", kind, field, *s, e)
				}
			}
			for _, *s = range mayNot[what(field)] {
				line, e := Show(c)
				if Check(c) != api.ErrArg || e != api.ErrArg || line != "" {
					t.Errorf("%d %s %q: %q %v", kind, field, *s, line, e)
				}
			}
			*s = was
		}
		c.Ops = []api.Op{}
		if e := Check(c); e != api.OK {
			t.Error(c, e)
		}
		c.Ops = []api.Op{{Kind: api.OpNode, Id: "a"}}
		if e := Check(c); (e == api.ErrArg) != (kind != api.CCommit) {
			t.Error(c, e)
		}
	}
	for _, kind := range []int{0, -1, 20, 21, 255, 256, 257, math.MinInt, math.MaxInt} {
		if Check(api.Call{Kind: kind}) != api.ErrArg || Check(api.Call{Kind: kind, Name: "main"}) != api.ErrArg {
			t.Error(kind)
		}
	}
}

// Each op may be, and has no more than it names.
func TestP43_2_CheckOfOps(t *testing.T) {
	check := func(o api.Op) api.Errno {
		return Check(api.Call{Kind: api.CCommit, Name: "main", Ops: []api.Op{{Kind: api.OpNode, Id: "a"}, o}})
	}
	one := api.Value{Kind: api.VInt, Num: 1}
	for kind, o := range map[int]api.Op{
		api.OpNode: {}, api.OpDropNode: {}, api.OpEdge: {From: "a", To: "b"}, api.OpDropEdge: {}, api.OpLabel: {Key: "k"}, api.OpUnlabel: {Key: "k"}, api.OpMark: {Key: "k"}, api.OpUnmark: {Key: "k"},
		api.OpSet: {Key: "k", Value: one}, api.OpUnset: {Key: "k"}, api.OpSetEdge: {Key: "k", Value: one}, api.OpUnsetEdge: {Key: "k"},
	} {
		o.Kind, o.Id = kind, "i"
		if e := check(o); e != api.OK {
			t.Error(o, e)
		}
		for i, of := range []*string{&o.Id, &o.From, &o.To, &o.Key} {
			was := *of
			for _, *of = range []string{"", "x", "X", "a b", "-", ";", "abcdefghijklm"} {
				isName := *of == "x" || *of == "-"
				want := api.ErrArg
				if was != "" && isName || was == "" && *of == "" {
					want = api.OK
				}
				if e := check(o); e != want {
					t.Errorf("%d %d %q: %v", kind, i, *of, e)
				}
			}
			*of = was
		}
		for _, v := range []api.Value{{}, one, {Kind: api.VText, Text: strings.Repeat("x", 64)}, {Kind: api.VText, Text: strings.Repeat("x", 65)}, {Kind: api.VBool, Num: 2}, {Num: 1}, {Text: "x"}, {Kind: 4}} {
			may := v == api.Value{}
			if kind == api.OpSet || kind == api.OpSetEdge {
				may = v == one || len(v.Text) == 64
			}
			o.Value = v
			if e := check(o); (e == api.OK) != may || e != api.OK && e != api.ErrArg {
				t.Error(o, e)
			}
		}
	}
	for _, kind := range []int{0, -1, 13, 14, math.MinInt, math.MaxInt} {
		if e := check(api.Op{Kind: kind, Id: "a"}); e != api.ErrArg {
			t.Error(kind, e)
		}
	}
}

// No lines: words too many or too few, other blanks, other signs, and what may not stand where it does.
func TestP43_2_NoLines(t *testing.T) {
	for _, s := range []string{
		"", " ", "-", ";", "commit", "commit main", "commit main -", "commit main - - -", "commit main - - ;", "commit main - - ; ", "commit main - - ; ;", "commit main - - +node a", "commit main - -; +node a",
		"commit main - - ; +node", "commit main - - ; +node A", "commit main - - ; +node a b", "commit main - - ;  +node a", "commit main - -  ; +node a", "commit main - - ; +node a ;", "commit main - - ; node a", "commit main - - ; ; +node a",
		"commit main - - ; +edge e a", "commit main - - ; +edge e a b c", "commit main - - ; +label a", "commit main - - ; +label a x y", "commit main - - ; +prop a k", "commit main - - ; +prop a k x", "commit main - - ; +prop a k 01",
		"commit main - - ; +prop a k 'a b", "commit main - - ; +prop a k #61", "commit main - - ; +prop a k #6", "commit main - - ; +prop a k TRUE", "commit main - - ; +prop a k -0", "commit main - - ; +prop a k +1", "commit main - - ; +prop a k -",
		"commit main - - ; -prop a k 1", "commit main - - ; +mark", "commit main - - ; +set a k 1", "commit main - - ; commit main - -", "commit main # -", "commit main 1 -", "commit main - A", "commit Main - -", "Commit main - -", "COMMIT main - -",
		" commit main - -", "commit main - - ", "commit  main - -", "commit\tmain - -", "commit main - -\n", "commit main - -\r", "\ncommit main - -", "commit main - abcdefghijklm", "commit abcdefghijklm - -",
		"branch x", "branch x -", "branch x 1", "branch x #1 #2", "branch #1 x", "tag v 1", "tag v", "move x #1", "move x - #1", "move x #1 -", "delete x", "delete x -", "untag x -", "checkout", "checkout -", "checkout #1 #2", "checkout 1",
		"node #1", "node a #1", "node #1 A", "out #1", "in #1", "labelled #1", "labelled #1 a b", "diff #1", "diff #1 -", "diff #1 #2 #3", "merge x #1 #2", "merge x - #2 -", "merge x #1 - -", "merge x #1 #2 - -", "base #1", "log", "log #01", "log #1 ",
		"log #9223372036854775808", "log #+1", "log # 1", "refs x", "refs -", "refs ; +node a", "repack 1", "collect ", "stat -", "branch x #1 ; +node a", "disk 16", "crash", "open", "# refs", "refs\x00", strings.Repeat("refs ", 2000),
	} {
		if c, e := Parse(s); e != api.ErrLine || !reflect.DeepEqual(c, api.Call{}) {
			t.Errorf("%q: %+v %v", s, c, e)
		}
	}
}

// Any other text than the lines that are turned by a byte is none, or another call's.
func TestP43_2_TurnedLines(t *testing.T) {
	for s, c := range lines() {
		for at := range s {
			for _, b := range []string{"", " ", "-", ";", "#", "0", "a", "'", "\x00", "\n", "  "} {
				turned := s[:at] + b + s[at+1:]
				got, e := Parse(turned)
				if e != api.OK {
					if e != api.ErrLine || !same(got, api.Call{}) {
						t.Fatalf("%q: %v", turned, e)
					}
					continue
				}
				if back, e := Show(got); back != turned || e != api.OK || same(got, c) != (turned == s) {
					t.Fatalf("%q: %q", turned, back)
				}
			}
		}
	}
}

func TestP43_3_Graph(t *testing.T) {
	text := func(s string) api.Value { return api.Value{Kind: api.VText, Text: s} }
	g := api.Graph{
		Nodes: []api.Node{
			{Id: "a"}, {Id: "b", Labels: []string{"x", "y"}}, {Id: "c", Props: []api.Prop{{Key: "k", Value: text("v")}, {Key: "l", Value: api.Value{Kind: api.VInt, Num: -12}}}},
			{Id: "d", Labels: []string{"z"}, Props: []api.Prop{{Key: "m", Value: text("a b")}, {Key: "n", Value: api.Value{Kind: api.VBool, Num: 1}}}},
		},
		Edges: []api.Edge{{Id: "e", From: "a", To: "b"}, {Id: "f", From: "b", To: "b", Labels: []string{"x"}, Props: []api.Prop{{Key: "k", Value: text("")}}}},
	}
	want := []string{"node a", "node b :x :y", "node c k='v l=-12", "node d :z m=#612062 n=true", "edge e a b", "edge f b b :x k='"}
	if l := Graph(g); !slices.Equal(l, want) {
		t.Errorf("%q", l)
	}
	if l := Graph(api.Graph{}); len(l) != 0 {
		t.Error(l)
	}
	odd := api.Graph{Nodes: []api.Node{{Props: []api.Prop{{Value: api.Value{Kind: 9}}}}}} // that may not be
	if l := Graph(odd); !slices.Equal(l, []string{"node  ="}) {
		t.Errorf("%q", l)
	}
}

func TestP43_3_Nums(t *testing.T) {
	for s, l := range map[string][]int{"": nil, "0": {0}, "3 2 4": {3, 2, 4}, fmt.Sprint(math.MinInt, " -1 ", math.MaxInt): {math.MinInt, -1, math.MaxInt}} {
		if got := Nums(l); got != s {
			t.Errorf("%q", got)
		}
	}
}

// What a call has is neither changed nor kept.
func TestP43_2_Memory(t *testing.T) {
	for s, c := range lines() {
		c.Ops = sample.Room(c.Ops, api.Op{Kind: 77, Id: "other"})
		was := sample.All(c.Ops)
		Check(c)
		if got, _ := Show(c); got != s || !slices.Equal(sample.All(c.Ops), was) {
			t.Error(s, got)
		}
	}
}

// drawn is a call that has no more than its line names.
func drawn(d *sample.Dice, x api.Model) api.Call {
	c := calls.Drawn(d, x, 3)
	c.Note = []string{"", "note"}[d.Below(2)]
	for field, s := range fields(&c) {
		if !needs(c.Kind, field) {
			*s = ""
		}
	}
	if c.Kind != api.CCommit {
		c.Ops = nil
	}
	return c
}

// needs tells whether a kind's line names a field.
func needs(kind int, field string) bool {
	l := map[int]string{
		api.CCommit: "Name Old Note", api.CBranch: "Name Hash", api.CTag: "Name Hash", api.CMove: "Name Old Hash", api.CDelete: "Name Old", api.CUntag: "Name Old", api.CCheckout: "Hash", api.CNode: "Hash Id",
		api.COut: "Hash Id", api.CIn: "Hash Id", api.CLabelled: "Hash Id", api.CDiff: "Hash Other", api.CMerge: "Name Old Hash Note", api.CBase: "Hash Other", api.CLog: "Hash",
	}
	return slices.Contains(strings.Fields(l[kind]), field)
}

func TestP43_4_ThereAndBack(t *testing.T) {
	var d sample.Dice
	m := model.New()
	met := map[int]int{}
	for range 3000 {
		c := drawn(&d, m.Seen())
		m.Do(c)
		s, e := Show(c)
		if e != Check(c) {
			t.Fatal(c, e)
		}
		if e != api.OK {
			continue
		}
		met[c.Kind]++
		back, e := Parse(s)
		if !same(back, c) || e != api.OK {
			t.Fatalf("%q: %+v, want %+v", s, back, c)
		}
		if again, e := Show(back); again != s || e != api.OK {
			t.Fatalf("%q: %q", s, again)
		}
	}
	if len(met) != 19 {
		t.Error(met)
	}
}
