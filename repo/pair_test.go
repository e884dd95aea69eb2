package repo

import (
	"reflect"
	"slices"
	"strings"
	"testing"

	"pleach/api"
	"pleach/calls"
	"pleach/commit"
	"pleach/disk"
	"pleach/line"
	"pleach/model"
	"pleach/sample"
)

// pair is a repository, and the model by which it is held: the commits' names, by their numbers, lead from one to the other.
type pair struct {
	t     testing.TB
	r     *Repo
	m     *model.State
	names map[int]string
}

// drive is a disk that a test can't do without.
func drive(t testing.TB, n int) *disk.Disk {
	t.Helper()
	d, e := disk.New(n)
	if e != api.OK {
		t.Fatal(n, e)
	}
	return d
}

// opened is a repository that a test can't do without.
func opened(t testing.TB, d *disk.Disk) *Repo {
	t.Helper()
	r, e := Open(d)
	if r == nil || e != api.OK {
		t.Fatal("Open", e)
	}
	return r
}

// fresh is an empty repository, on a disk of n sectors, and an empty model.
func fresh(t testing.TB, n int) *pair {
	t.Helper()
	return &pair{t: t, r: opened(t, drive(t, n)), m: model.New(), names: map[int]string{}}
}

// parsed is the call of a line.
func parsed(t testing.TB, s string) api.Call {
	t.Helper()
	c, e := line.Parse(s)
	if e != api.OK {
		t.Fatal(s, e)
	}
	return c
}

// name is the name of a commit that is called by its number.
func (p *pair) name(s string) string {
	num, is := model.Number(s)
	if !is {
		return s
	}
	if name, made := p.names[num]; made {
		return name
	}
	return strings.Repeat("?", api.Hash)
}

// real is a call with the commits' names.
func (p *pair) real(c api.Call) api.Call {
	c.Old, c.Hash, c.Other = p.name(c.Old), p.name(c.Hash), p.name(c.Other)
	return c
}

// called is how a commit is called.
func (p *pair) called(name string) string {
	for num, s := range p.names {
		if s == name {
			return model.Name(num)
		}
	}
	return name
}

// plain is an answer with the commits' numbers.
func (p *pair) plain(a api.Answer) api.Answer {
	a = calls.Plain(a)
	a.Hash = p.called(a.Hash)
	for i, s := range a.Log {
		a.Log[i] = p.called(s)
	}
	for i, x := range a.Refs {
		a.Refs[i].Hash = p.called(x.Hash)
	}
	return a
}

func makes(c api.Call) bool { return c.Kind == api.CCommit || c.Kind == api.CMerge }

func writes(kind int) bool {
	return kind >= api.CCommit && kind <= api.CUntag || kind == api.CMerge || kind == api.CRepack || kind == api.CCollect
}

// do does a call on both, and holds the answers against each other; where there is no room the model does nothing either.
func (p *pair) do(c api.Call) api.Answer {
	p.t.Helper()
	was, num := p.m.Copy(), p.m.Seen().Num
	want := p.m.Do(c)
	ahead := state(p.t, p.r)
	a := p.r.Do(p.real(c))
	if a.Err == api.OK && makes(c) {
		if a.Hash == "" || p.called(a.Hash) != a.Hash {
			p.t.Fatal(c, "is not named anew")
		}
		p.names[num] = a.Hash
	}
	got := p.plain(a)
	if got.Err == api.ErrFull && want.Err == api.OK && writes(c.Kind) {
		p.m, want = was, api.Answer{Err: api.ErrFull}
	}
	if !reflect.DeepEqual(got, calls.Plain(want)) {
		p.t.Fatalf("%+v: %+v, want %+v", c, got, want)
	}
	if a.Err != api.OK || !writes(c.Kind) {
		same(p.t, c, state(p.t, p.r), ahead)
	}
	return got
}

// line does the call of a line.
func (p *pair) line(s string) api.Answer {
	p.t.Helper()
	return p.do(parsed(p.t, s))
}

// lines does the calls of lines, of which none is refused.
func (p *pair) lines(l ...string) {
	p.t.Helper()
	for _, s := range l {
		if a := p.line(s); a.Err != api.OK {
			p.t.Fatal(s, a)
		}
	}
}

// reopen opens the disk anew.
func (p *pair) reopen() {
	p.t.Helper()
	p.r = opened(p.t, p.r.Disk())
}

// sees tells whether a repository has what a model has.
func sees(r *Repo, m *model.State, names map[int]string) bool {
	p := pair{r: r, m: m, names: names}
	told := func(c api.Call) bool {
		return reflect.DeepEqual(p.plain(r.Do(p.real(c))), calls.Plain(m.Do(c)))
	}
	x := m.Seen()
	for _, k := range x.Commits {
		if hash := model.Name(k.Num); !told(api.Call{Kind: api.CCheckout, Hash: hash}) || !told(api.Call{Kind: api.CLog, Hash: hash}) {
			return false
		}
		text, _ := r.Object(names[k.Num])
		c, e := commit.Take(text)
		if k.Gone {
			if e == api.OK {
				return false
			}
			continue
		}
		var parents []string
		for _, num := range k.Parents {
			parents = append(parents, names[num])
		}
		if c.Num != k.Num || c.Note != k.Note || !slices.Equal(c.Parents, parents) {
			return false
		}
	}
	return told(api.Call{Kind: api.CRefs}) && told(api.Call{Kind: api.CStat})
}

// agree is told whether both have the same.
func (p *pair) agree(what any) {
	p.t.Helper()
	if !sees(p.r, p.m, p.names) {
		p.t.Fatal(what, "they have not the same")
	}
}

// all is all that can be told of a repository, and of its disk.
type all struct {
	Objects       []string
	Head          api.Head
	Records, Tail int
	Refs          []api.Ref
	Nums          []int
	Image         api.Image
	Ops           int
}

func state(t testing.TB, r *Repo) all {
	t.Helper()
	x := all{Objects: r.Objects(), Refs: r.Do(api.Call{Kind: api.CRefs}).Refs, Nums: r.Do(api.Call{Kind: api.CStat}).Nums, Image: r.Disk().Seize(), Ops: r.Disk().Ops()}
	x.Head, x.Records, x.Tail = r.Head()
	return x
}

// same is told whether nothing has changed.
func same(t testing.TB, what any, got, want all) {
	t.Helper()
	if !reflect.DeepEqual(got, want) {
		t.Fatal(what, "something has changed")
	}
}

// copied is another disk that shows the same.
func copied(t testing.TB, d *disk.Disk) *disk.Disk {
	t.Helper()
	other, e := disk.Load(d.Seize())
	if e != api.OK {
		t.Fatal(e)
	}
	return other
}

// draws does calls that are drawn.
func (p *pair) draws(d *sample.Dice, count, names int) {
	p.t.Helper()
	for range count {
		p.do(calls.Drawn(d, p.m.Seen(), names))
	}
}
