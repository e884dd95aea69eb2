package repo

import (
	"fmt"
	"slices"
	"testing"

	"pleach/api"
	"pleach/area"
	"pleach/calls"
	"pleach/mark"
	"pleach/pack"
	"pleach/refs"
	"pleach/sample"
	"pleach/seat"
)

// has tells whether what a call makes has room on a disk of n sectors, by what it makes on a great disk.
func has(t *testing.T, n int, great *Repo, c api.Call) bool {
	t.Helper()
	done := opened(t, copied(t, great.Disk()))
	if a := done.Do(c); a.Err != api.OK || !writes(c.Kind) {
		return true
	}
	head, records, tail := done.Head()
	if c.Kind == api.CRepack || c.Kind == api.CCollect {
		return area.Fits(n, head.Pack, 0, len(done.refs))
	}
	return area.Fits(n, head.Pack, tail, records)
}

func TestP41_2_FullJustWhereThereIsNoRoom(t *testing.T) {
	var d sample.Dice
	for _, n := range []int{16, 17, 24, 40, 61} {
		small, great := fresh(t, n), fresh(t, 4096)
		full := map[int]int{}
		for range 400 {
			c := calls.Drawn(&d, small.m.Seen(), 3)
			fits := has(t, n, great.r, great.real(c))
			a := small.do(c)
			if (a.Err == api.ErrFull) == fits {
				t.Fatal(n, c, a, fits)
			}
			if !fits {
				full[c.Kind]++
				continue
			}
			great.do(c)
			if head, records, tail := great.r.Head(); n > 20 {
				other, count, size := small.r.Head()
				if head != other || records != count || tail != size {
					t.Fatal(n, c)
				}
			}
		}
		if full[api.CCommit] == 0 || full[api.CTag]+full[api.CBranch]+full[api.CMove]+full[api.CDelete]+full[api.CUntag] == 0 {
			t.Error(n, full)
		}
		small.reopen()
		small.agree(n)
	}
}

// Records alone fill a half, but for the sector that stays empty.
func TestP41_2_FullOfRecords(t *testing.T) {
	p := fresh(t, 40) // halves of 19
	p.lines("commit m - -")
	_, _, tail := p.r.Head()
	left := 19 - area.Sectors(tail) - 2
	for i := range left {
		p.lines([]string{"tag v #1", "untag v #1"}[i%2])
	}
	for _, s := range []string{"tag w #1", "branch x #1", "delete m #1", "move m #1 #1", "commit m #1 -", "commit x - - ; +node a"} {
		if a := p.line(s); a.Err != api.ErrFull {
			t.Error(s, a)
		}
	}
	p.reopen()
	if a := p.line("tag w #1"); a.Err != api.ErrFull {
		t.Error(a)
	}
	p.lines("repack", "tag w #1", "commit m #1 -")
	p.reopen()
	p.agree("behind a repack")
}

// What needs more room than the other half has can't be repacked; what is kept of it can be collected.
func TestP41_2_FullOfAPack(t *testing.T) {
	k := tight(t)
	r := opened(t, k.disk(t))
	was := state(t, r)
	for range 2 {
		if a := r.Do(api.Call{Kind: api.CRepack}); a.Err != api.ErrFull {
			t.Error(a)
		}
		same(t, "a repack", state(t, r), was)
	}
	first, _, one, _ := two(t)
	if a := r.Do(api.Call{Kind: api.CCollect}); a.Err != api.OK || len(r.Objects()) != len(first) {
		t.Error(a, len(r.Objects()))
	}
	r = opened(t, r.Disk())
	if a := r.Do(api.Call{Kind: api.CLog, Hash: one}); a.Err != api.OK || len(r.Objects()) != len(first) {
		t.Error(a, len(r.Objects()))
	}
}

// A pack has at most 4096 objects: what is loose may be collected.
func TestP41_2_TheLimitOfAPack(t *testing.T) {
	first, _, one, _ := two(t)
	for _, more := range []int{4096 - len(first), 4097 - len(first)} {
		texts := slices.Clone(first)
		for i := range more {
			texts = append(texts, fmt.Sprint("?", i))
		}
		k := kept{n: 4096, head: api.Head{Epoch: 1, Num: 1}, log: framed(t, texts...)}
		k.records = []api.Record{{Kind: api.Branch, Name: "main", New: one, Tail: len(k.log), Num: 2}}
		r := opened(t, k.disk(t))
		want, was := api.OK, state(t, r)
		if len(texts) > 4096 {
			want = api.ErrLimit
		}
		if a := r.Do(api.Call{Kind: api.CRepack}); a.Err != want {
			t.Error(a)
		}
		if want != api.OK {
			same(t, "a repack", state(t, r), was)
		}
		if a := r.Do(api.Call{Kind: api.CCollect}); a.Err != api.OK || len(r.Objects()) != len(first) {
			t.Error(a, len(r.Objects()))
		}
	}
}

// Where there is no next epoch, nothing is rewritten; that there is no room is told ahead of it.
func TestP41_2_TheLastEpoch(t *testing.T) {
	for _, kind := range []int{api.CRepack, api.CCollect} {
		k := good(t)
		k.head.Epoch = api.MaxNum - 1
		r := opened(t, k.disk(t))
		if a := r.Do(api.Call{Kind: kind}); a.Err != api.OK {
			t.Error(a)
		}
		head, _, _ := r.Head()
		if head.Epoch != api.MaxNum || seat.Slot(head.Epoch) != 1 {
			t.Error(head)
		}
		r = opened(t, r.Disk())
		was := state(t, r)
		for range 2 {
			if a := r.Do(api.Call{Kind: kind}); a.Err != api.ErrLimit {
				t.Error(a)
			}
		}
		same(t, kind, state(t, r), was)
		if a := r.Do(api.Call{Kind: api.CTag, Name: "w", Hash: r.refs[0].Hash}); a.Err != api.OK {
			t.Error(a)
		}
	}
	k := tight(t)
	k.head.Epoch = api.MaxNum
	r := opened(t, k.disk(t))
	if a := r.Do(api.Call{Kind: api.CRepack}); a.Err != api.ErrFull {
		t.Error(a)
	}
}

// tight is a disk whose objects have no room as a pack beside the refs.
func tight(t *testing.T) kept {
	t.Helper()
	first, _, one, _ := two(t)
	for n := 1; ; n++ {
		k := kept{n: 64, head: api.Head{Epoch: 1, Num: 1}, log: framed(t, first...)}
		texts := slices.Clone(first)
		for i := range n {
			texts = append(texts, fmt.Sprint("?", i))
		}
		k.log = framed(t, texts...)
		k.records = []api.Record{{Kind: api.Branch, Name: "main", New: one, Tail: len(k.log), Num: 2}}
		if s, _ := pack.Make(texts...); !area.Fits(64, len(s), 0, 1) {
			return k
		}
	}
}

// A number is the last one: behind it no commit is made, and all else goes on.
func TestP41_2_TheLastNumber(t *testing.T) {
	first, more, one, other := two(t)
	k := kept{n: 64, head: api.Head{Epoch: 1, Num: api.MaxNum}, log: framed(t, append(first, more...)...)}
	k.records = []api.Record{{Kind: api.Branch, Name: "main", New: one, Num: api.MaxNum}, {Kind: api.Branch, Name: "x", New: other, Num: api.MaxNum}}
	tails(&k)
	r := opened(t, k.disk(t))
	last := r.Do(api.Call{Kind: api.CCommit, Name: "main", Old: one})
	if last.Err != api.OK || !slices.Equal(r.Do(api.Call{Kind: api.CStat}).Nums, []int{3, 2, 1 << 32}) {
		t.Fatal(last)
	}
	r = opened(t, r.Disk())
	for _, c := range []api.Call{
		{Kind: api.CCommit, Name: "main", Old: last.Hash}, {Kind: api.CCommit, Name: "new"}, {Kind: api.CMerge, Name: "x", Old: other, Hash: last.Hash}, {Kind: api.CMerge, Name: "main", Old: last.Hash, Hash: other},
		{Kind: api.CCommit, Name: "new", Ops: []api.Op{{}}}, // ahead of what the ops may not
	} {
		if a := r.Do(c); a.Err != api.ErrLimit {
			t.Error(c, a)
		}
	}
	if a := r.Do(api.Call{Kind: api.CMerge, Name: "x", Old: other, Hash: other}); a.Err != api.ErrTwice { // ahead of the number
		t.Error(a)
	}
	for _, c := range []api.Call{{Kind: api.CRepack}, {Kind: api.CTag, Name: "v", Hash: last.Hash}, {Kind: api.CCollect}} {
		if a := r.Do(c); a.Err != api.OK {
			t.Error(c, a)
		}
	}
	r = opened(t, r.Disk())
	if a := r.Do(api.Call{Kind: api.CLog, Hash: last.Hash}); !slices.Equal(a.Log, []string{last.Hash, one}) {
		t.Error(a)
	}
}

// A repack changes no answer; the other half counts then, and has a pack of all objects.
func TestP41_2_Repack(t *testing.T) {
	var d sample.Dice
	p := fresh(t, 4096)
	for epoch := 2; epoch < 8; epoch++ {
		p.draws(&d, 60, 4)
		was, objects := state(t, p.r), p.r.Objects()
		p.lines("repack")
		head, records, tail := p.r.Head()
		if head.Epoch <= was.Head.Epoch || head.Half != 1-was.Head.Half || head.Num != was.Nums[2] || records != len(was.Refs) || tail != 0 {
			t.Error(epoch, head, records, tail)
		}
		if !slices.Equal(p.r.Objects(), objects) {
			t.Error(epoch, "other objects")
		}
		p.agree(epoch)
		p.reopen()
		p.agree(epoch)
		if other, count, size := p.r.Head(); other != head || count != records || size != 0 || !slices.Equal(p.r.Objects(), objects) {
			t.Error(epoch, other)
		}
	}
	if l, e := mark.Reach(p.r.shelf, refs.Hashes(p.r.refs...)...); e != api.OK || len(l) == len(p.r.Objects()) {
		t.Error("nothing was loose", e)
	}
}
