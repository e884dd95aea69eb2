package repo

import (
	"fmt"
	"slices"
	"strings"
	"testing"

	"pleach/api"
	"pleach/area"
	"pleach/bound"
	"pleach/calls"
	"pleach/commit"
	"pleach/disk"
	"pleach/entry"
	"pleach/graph"
	"pleach/mark"
	"pleach/model"
	"pleach/refs"
	"pleach/sample"
	"pleach/seat"
)

// Behind a CCollect just what the refs' commits need is stored, in memory and on the disk.
func TestP41_5_Collect(t *testing.T) {
	var d sample.Dice
	loose := 0
	for _, n := range []int{60, 4096} {
		p := fresh(t, n)
		for range 30 {
			p.draws(&d, 25, 4)
			kept, e := mark.Reach(p.r.shelf, refs.Hashes(p.r.refs...)...)
			if e != api.OK {
				t.Fatal(e)
			}
			loose += len(p.r.Objects()) - len(kept)
			if a := p.do(api.Call{Kind: api.CCollect}); a.Err != api.OK {
				continue
			}
			if !slices.Equal(p.r.Objects(), kept) {
				t.Fatal(n, len(p.r.Objects()), len(kept))
			}
			p.reopen()
			p.agree(n)
			if !slices.Equal(p.r.Objects(), kept) {
				t.Fatal(n, len(p.r.Objects()), len(kept))
			}
		}
	}
	if loose == 0 {
		t.Error("nothing was loose")
	}
}

func TestP41_5_CollectOfNothing(t *testing.T) {
	p := fresh(t, 40)
	p.lines("collect", "commit main - - ; +node a", "delete main #1", "collect")
	if l := p.r.Objects(); len(l) != 0 {
		t.Error(l)
	}
	p.reopen()
	p.agree("nothing")
	if a := p.line("commit main - -"); a.Hash != "#2" {
		t.Error(a)
	}
}

// Commits have one Root just where they have one graph, whichever calls made them.
func TestP41_6_OneGraphOneName(t *testing.T) {
	var d sample.Dice
	same := 0
	for range 6 {
		p := fresh(t, 4096)
		p.draws(&d, 150, 4)
		p.lines("commit one - - ; +node a ; +node b ; +edge e a b ; +label a x", "commit two - - ; +node b ; +node z ; +node a ; -node z ; +edge e b a ; -edge e ; +edge e a b")
		l := p.m.Seen().Commits
		p.lines("commit two "+model.Name(l[len(l)-1].Num)+" - ; +label a y ; -label a y ; +label a x", "repack")
		l = p.m.Seen().Commits
		for _, a := range l {
			for _, b := range l {
				if a.Gone || b.Gone {
					continue
				}
				rootA, _ := p.r.Root(p.names[a.Num])
				rootB, _ := p.r.Root(p.names[b.Num])
				if (rootA == rootB) != graph.Same(a.Graph, b.Graph) {
					t.Fatal(a, b)
				}
				if rootA == rootB && a.Num < b.Num {
					same++
				}
			}
		}
	}
	if same < 6 {
		t.Error(same)
	}
}

// counted does a call, and is told whether it does more than bound says.
func counted(t *testing.T, r *Repo, c api.Call) api.Answer {
	t.Helper()
	d := r.Disk()
	ops := d.Ops()
	a := r.Do(c)
	if n := d.Ops() - ops; n > bound.Do(d.Size(), c.Kind) {
		t.Fatal(c, n)
	}
	return a
}

func TestP41_7_Steps(t *testing.T) {
	var d sample.Dice
	for _, n := range []int{16, 17, 40, 300, 4096} {
		p := fresh(t, n)
		for range 300 {
			c := calls.Drawn(&d, p.m.Seen(), 4)
			ops := p.r.Disk().Ops()
			p.do(c)
			if done := p.r.Disk().Ops() - ops; done > bound.Do(n, c.Kind) {
				t.Fatal(n, c, done)
			}
			if d.Below(20) > 0 {
				continue
			}
			ops = p.r.Disk().Ops()
			p.reopen()
			if done := p.r.Disk().Ops() - ops; done > bound.Open(n) {
				t.Fatal(n, done)
			}
		}
	}
}

// A commit does as much as it has sectors to write, and a record takes; or nothing, where they have no room.
func TestP41_7_ACommit(t *testing.T) {
	for _, n := range []int{16, 24, 200} {
		blank := drive(t, n)
		opened(t, blank)
		met := map[api.Errno]int{}
		for count := range 65 {
			r := opened(t, copied(t, blank))
			c := api.Call{Kind: api.CCommit, Name: "main"}
			for i := range count {
				c.Ops = append(c.Ops, api.Op{Kind: api.OpNode, Id: fmt.Sprint("n", i)})
			}
			ops := r.Disk().Ops()
			a := counted(t, r, c)
			met[a.Err]++
			_, _, tail := r.Head()
			want := area.Sectors(tail) + 4
			if a.Err == api.ErrFull {
				want = 0
			}
			if done := r.Disk().Ops() - ops; done != want {
				t.Fatal(n, count, done)
			}
		}
		if (met[api.ErrFull] == 0) != (n == 200) || met[api.OK] == 0 {
			t.Error(n, met)
		}
	}
}

// spoil turns something on a disk: sectors as they may stand, heads and records that may be, and what may not.
func spoil(d *sample.Dice, x *disk.Disk) {
	n := x.Size()
	at := d.Below(n)
	s, _ := x.Read(d.Below(n))
	switch d.Below(8) {
	case 0:
		s = noughts
	case 1:
		s = rubbish
	case 2:
		s, _ = x.Read(at)
		s = spoiled(s, d.Below(128))
	case 3:
		h := api.Head{Epoch: 1 + d.Below(5), Half: d.Below(2), Pack: d.Below(64 * n), Num: 1 + d.Below(9)}
		s, _ = seat.Put(h)
		at = d.Below(2)
	case 4:
		half, seq := d.Below(2), d.Below(5)
		place, _ := area.Place(n, half, seq)
		was, e := x.Read(place)
		r, e2 := entry.Take(was)
		if e != api.OK || e2 != api.OK {
			break
		}
		r.Tail += d.Below(300) - 150
		r.Num += d.Below(3) - 1
		if t, e := entry.Put(r); e == api.OK {
			s, at = t, place
		}
	case 5:
		at = d.Below(2)
	}
	x.Over(at, s)
}

// Whatever is on a disk, opening it and all calls end, and do no more than bound says.
func TestP41_7_WhateverIsOnTheDisk(t *testing.T) {
	var d sample.Dice
	met := map[api.Errno]int{}
	for _, n := range []int{16, 40, 120} {
		for range 12 {
			p := fresh(t, n)
			p.draws(&d, 30, 3)
			for range 40 {
				x := copied(t, p.r.Disk())
				for range 1 + d.Below(3) {
					spoil(&d, x)
				}
				ops := x.Ops()
				r, e := Open(x)
				if x.Ops()-ops > bound.Open(n) || (e != api.OK && e != api.ErrRot) || (r == nil) != (e != api.OK) {
					t.Fatal(e, x.Ops()-ops)
				}
				met[e]++
				if e != api.OK {
					continue
				}
				for range 20 {
					counted(t, r, p.real(calls.Drawn(&d, p.m.Seen(), 3)))
				}
				opened(t, x) // what these calls wrote is as it must be
			}
		}
	}
	if met[api.OK] < 50 || met[api.ErrRot] < 50 {
		t.Error(met)
	}
}

// Commits' names are sums, whatever else is asked for is none.
func TestP41_2_Names(t *testing.T) {
	p := fresh(t, 100)
	p.lines("commit main - - ; +node a")
	one := p.names[1]
	if k, e := commit.Load(p.r.shelf, one); e != api.OK || k.Num != 1 {
		t.Fatal(k, e)
	}
	for _, kind := range []int{api.CCheckout, api.CNode, api.COut, api.CIn, api.CLabelled, api.CDiff, api.CBase, api.CLog, api.CMove, api.CMerge, api.CBranch, api.CTag, api.CDelete, api.CUntag, api.CCommit} {
		c := api.Call{Kind: kind, Name: "x", Id: "a", Old: one, Hash: one, Other: one}
		for _, field := range []*string{&c.Hash, &c.Other, &c.Old} {
			was := *field
			for _, s := range []string{"", "#1", "x", one[:31], one + "\x00", strings.Repeat("#1", 20)} {
				*field = s
				needs := field == &c.Hash && !slices.Contains([]int{api.CDelete, api.CUntag, api.CCommit}, kind) || field == &c.Other && (kind == api.CDiff || kind == api.CBase) ||
					field == &c.Old && (slices.Contains([]int{api.CMove, api.CMerge, api.CDelete, api.CUntag}, kind) || kind == api.CCommit && s != "")
				if a := opened(t, copied(t, p.r.Disk())).Do(c); (a.Err == api.ErrArg) != needs {
					t.Errorf("%d %q: %v", kind, s, a.Err)
				}
			}
			*field = was
		}
	}
}
