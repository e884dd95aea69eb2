// Package calls draws calls of a repository for the tests of other packages. No layer calls it.
package calls

import (
	"slices"
	"strconv"
	"strings"

	"pleach/api"
	"pleach/graph"
	"pleach/sample"
)

// name is what a commit of a number is called.
func name(num int) string { return "#" + strconv.Itoa(num) }

// hash is mostly what a ref names, or some commit's name.
func hash(d *sample.Dice, x api.Model) string {
	few := []string{"", "#0", "x", "#01", "#99999", "#"}
	switch n := d.Below(100); {
	case n < len(few):
		return few[n]
	case n < 70 && len(x.Refs) > 0:
		return x.Refs[d.Below(len(x.Refs))].Hash
	case len(x.Commits) > 0:
		return name(x.Commits[d.Below(len(x.Commits))].Num)
	}
	return name(x.Num)
}

// Drawn is a call, most of whose parts may be, where a model has that; names is how many names of refs there are.
func Drawn(d *sample.Dice, x api.Model, names int) api.Call {
	c := api.Call{Kind: d.Below(24) - 1, Name: "r" + strconv.Itoa(d.Below(names)), Hash: hash(d, x), Other: hash(d, x), Id: d.Node()}
	switch d.Below(6) {
	case 0, 1:
		c.Kind = api.CCommit
	case 2:
		c.Kind = api.CMerge
	}
	var there []api.Ref // of the kind that the call is about
	for _, r := range x.Refs {
		if (r.Kind == api.Tag) == (c.Kind == api.CTag || c.Kind == api.CUntag) {
			there = append(there, r)
		}
	}
	if len(there) > 0 && d.Below(2) == 0 {
		c.Name = there[d.Below(len(there))].Name
	}
	at := slices.IndexFunc(there, func(r api.Ref) bool { return r.Name == c.Name })
	switch {
	case d.Below(10) == 0:
		c.Old = hash(d, x)
	case at >= 0:
		c.Old = there[at].Hash
	}
	odd(d, &c)
	if len(c.Ops) == 0 {
		c.Ops = ready(d, x, c.Old)
	}
	return c
}

// odd has some calls say what is odd, or may not be.
func odd(d *sample.Dice, c *api.Call) {
	switch d.Below(50) {
	case 0:
		c.Name = ""
	case 1:
		c.Name = "A"
	case 2:
		c.Id = "a b"
	case 3:
		c.Note = strings.Repeat("n", api.MaxNote)
	case 4:
		c.Note = strings.Repeat("n", api.MaxNote+1)
	case 5:
		c.Ops = slices.Repeat([]api.Op{{Kind: api.OpNode, Id: "z"}, {Kind: api.OpDropNode, Id: "z"}}, api.MaxOps/2)
	case 6:
		c.Ops = make([]api.Op, api.MaxOps+1)
	}
	if c.Kind == api.CLabelled && d.Below(2) == 0 {
		c.Id = d.Label()
	}
}

// ready is a few ops, most of which the graph of a commit lets be.
func ready(d *sample.Dice, x api.Model, old string) []api.Op {
	var g api.Graph
	for _, k := range x.Commits {
		if name(k.Num) == old {
			g = k.Graph
		}
	}
	var l []api.Op
	for range d.Below(40) {
		o := d.Op()
		next, _, e := graph.Apply(g, o)
		if e == api.OK {
			g = next
		} else if d.Below(15) > 0 {
			continue
		}
		l = append(l, o)
	}
	return l
}

// Spoil spoils all lists of an answer.
func Spoil(a api.Answer) {
	sample.SpoilOf(a.Graph)
	sample.Spoil(a.Changes)
	sample.Spoil(a.Conflicts)
	sample.Spoil(a.Log)
	sample.Spoil(a.Refs)
	sample.Spoil(a.Nums)
}

// Plain is an answer, whose empty lists are nil.
func Plain(a api.Answer) api.Answer {
	a.Graph = sample.Plain(a.Graph)
	a.Changes, a.Conflicts, a.Log = slices.Concat(a.Changes), slices.Concat(a.Conflicts), slices.Concat(a.Log)
	a.Refs, a.Nums = slices.Concat(a.Refs), slices.Concat(a.Nums)
	return a
}
