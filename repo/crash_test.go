package repo

import (
	"maps"
	"testing"

	"pleach/api"
	"pleach/calls"
	"pleach/disk"
	"pleach/model"
	"pleach/sample"
)

// subsets is which writes of a cache may be kept: all choices of a few, and of many none, all, each alone, all but each, all up to each, and some that are drawn.
func subsets(d *sample.Dice, n int) [][]int {
	pick := func(is func(i int) bool) []int {
		var l []int
		for i := range n {
			if is(i) {
				l = append(l, i)
			}
		}
		return l
	}
	var all [][]int
	if n <= 5 {
		for set := range 1 << n {
			all = append(all, pick(func(i int) bool { return set>>i&1 == 1 }))
		}
		return all
	}
	all = append(all, nil, pick(func(int) bool { return true }))
	for at := range n {
		all = append(all, []int{at}, pick(func(i int) bool { return i != at }), pick(func(i int) bool { return i < at }))
	}
	for range 5 {
		all = append(all, pick(func(int) bool { return d.Below(2) == 0 }))
	}
	return all
}

// crashed is a repository that a disk has behind a crash: its model is the one that it agrees with, of those ahead of a call and behind it.
func crashed(t testing.TB, what any, d *disk.Disk, ahead, behind *pair) *pair {
	t.Helper()
	r := opened(t, d)
	for _, p := range []*pair{ahead, behind} {
		if sees(r, p.m, p.names) {
			return &pair{t: t, r: r, m: p.m.Copy(), names: maps.Clone(p.names)}
		}
	}
	t.Fatal(what, "has neither what was nor what is")
	return nil
}

// cut lets the power go at each step of a call, and behind it, with all that may be kept; on what is there then some calls more are done.
func (p *pair) cut(d *sample.Dice, c api.Call, more int) {
	p.t.Helper()
	behind := &pair{t: p.t, r: opened(p.t, copied(p.t, p.r.Disk())), m: p.m.Copy(), names: maps.Clone(p.names)}
	behind.do(c)
	met := map[bool]int{}
	for step := 1; ; step++ {
		disk := copied(p.t, p.r.Disk())
		r := opened(p.t, disk)
		disk.Arm(step)
		a := r.Do(p.real(c))
		for _, keep := range subsets(d, len(disk.Seize().Cache)) {
			other := copied(p.t, disk)
			other.Crash(keep...)
			other.Boot()
			found := crashed(p.t, c, other, p, behind)
			is := sees(found.r, behind.m, behind.names)
			if a.Err != api.ErrDown && !is {
				p.t.Fatal(c, a.Err, "was answered, and is not there")
			}
			met[is]++
			found.draws(d, more, 3)
			found.agree(c)
			found.reopen()
			found.agree(c)
		}
		if a.Err != api.ErrDown {
			break
		}
	}
	if !sees(p.r, behind.m, behind.names) && (met[true] < 2 || met[false] < 2) {
		p.t.Error(c, met)
	}
}

func TestP41_4_AllOrNothing(t *testing.T) {
	p := fresh(t, 44)
	var d sample.Dice
	for _, s := range []string{
		"commit main - - ; +node a ; +prop a k 'x", "branch x #1", "commit main #1 - ; +node b ; +node c ; +edge e a b ; +edge f b c", "commit x #1 note ; +node d", "merge main #2 #3 -",
		"tag v #2", "repack", "move x #3 #1", "commit x #1 - ; -node a", "delete x #5", "repack", "untag v #2", "collect", "commit new - - ; +node z", "commit main #4 - ; -edge e", "delete new #6", "collect",
	} {
		c := parsed(t, s)
		p.cut(&d, c, 2)
		if a := p.do(c); a.Err != api.OK {
			t.Fatal(s, a)
		}
	}
}

// Whatever is drawn, on disks that are full now and then.
func TestP41_4_AllOrNothingOfAnyCalls(t *testing.T) {
	var d sample.Dice
	for _, n := range []int{16, 24, 51} {
		p := fresh(t, n)
		for range 60 {
			c := calls.Drawn(&d, p.m.Seen(), 3)
			if writes(c.Kind) {
				p.cut(&d, c, 1)
			}
			p.do(c)
		}
	}
}

// The power goes again and again, at any step of any call, and what is there goes on from what was kept.
func TestP41_4_OneCrashBehindTheOther(t *testing.T) {
	var d sample.Dice
	for _, n := range []int{16, 30, 100, 400} {
		p := fresh(t, n)
		full := false
		for range 300 {
			c := calls.Drawn(&d, p.m.Seen(), 3)
			if full {
				c = api.Call{Kind: api.CCollect}
			}
			behind := &pair{t: t, r: opened(t, copied(t, p.r.Disk())), m: p.m.Copy(), names: maps.Clone(p.names)}
			full = behind.do(c).Err == api.ErrFull
			disk := p.r.Disk()
			disk.Arm(1 + d.Below(12))
			a := p.r.Do(p.real(c))
			l := subsets(&d, len(disk.Seize().Cache))
			disk.Crash(l[d.Below(len(l))]...)
			disk.Boot()
			if a.Err != api.ErrDown {
				p = crashed(t, c, disk, behind, behind)
				continue
			}
			p = crashed(t, c, disk, p, behind)
		}
		if p.m.Seen().Num < 4 {
			t.Error(n, p.m.Seen().Num)
		}
	}
}

// Opening may be cut short, too: what the disk had it has.
func TestP41_4_OpeningChangesNothing(t *testing.T) {
	p := fresh(t, 40)
	p.lines("commit main - - ; +node a", "repack", "tag v #1")
	for step := 1; step < 5; step++ {
		d := copied(t, p.r.Disk())
		d.Arm(step)
		if r, e := Open(d); e != api.OK || !sees(r, p.m, p.names) {
			t.Error(step, e)
		}
		d.Crash()
		d.Boot()
		if !sees(opened(t, d), p.m, p.names) {
			t.Error(step)
		}
	}
	if !sees(opened(t, drive(t, 16)), model.New(), nil) {
		t.Error("an empty one")
	}
}
