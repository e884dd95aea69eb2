package bound

import (
	"math"
	"slices"
	"strings"
	"testing"

	"pleach/api"
	"pleach/area"
	"pleach/calls"
	"pleach/disk"
	"pleach/entry"
	"pleach/model"
	"pleach/repo"
	"pleach/sample"
	"pleach/seat"
)

func sizes() []int { return []int{16, 17, 18, 64, 101, 4095, 4096} }

func wrong() []int { return []int{15, 4097, 0, 1, -1, -16, math.MinInt, math.MaxInt} }

// logged, named and swept are the kinds of calls that write; quiet are those that don't, and what is none.
func logged() []int { return []int{api.CCommit, api.CMerge} }
func named() []int  { return []int{api.CBranch, api.CTag, api.CMove, api.CDelete, api.CUntag} }
func swept() []int  { return []int{api.CRepack, api.CCollect} }
func quiet() []int {
	return []int{
		api.CCheckout, api.CNode, api.COut, api.CIn, api.CLabelled, api.CDiff, api.CBase, api.CLog, api.CRefs, api.CStat,
		0, -1, 20, math.MinInt, math.MaxInt,
	}
}

func every() []int { return slices.Concat(logged(), named(), swept(), quiet()) }

func TestP45_1_Open(t *testing.T) {
	for n, want := range map[int]int{16: 40, 17: 42, 4095: 8198, 4096: 8200} {
		if k := Open(n); k != want {
			t.Error(n, k)
		}
	}
	for _, n := range wrong() {
		if k := Open(n); k != 0 {
			t.Error(n, k)
		}
	}
}

func TestP45_1_Do(t *testing.T) {
	for n, half := range map[int]int{16: 7, 17: 7, 18: 8, 4095: 2046, 4096: 2047} {
		for _, c := range []struct {
			kinds []int
			want  int
		}{{logged(), half + 5}, {named(), 5}, {swept(), half + 3}, {quiet(), 0}} {
			for _, kind := range c.kinds {
				if k := Do(n, kind); k != c.want {
					t.Errorf("Do(%d, %d) = %d, want %d", n, kind, k, c.want)
				}
			}
		}
	}
	for _, n := range wrong() {
		for _, kind := range every() {
			if k := Do(n, kind); k != 0 {
				t.Error(n, kind, k)
			}
		}
	}
}

func TestP45_1_All(t *testing.T) {
	if k := All(16, api.CTag, api.CCollect); k != 55 {
		t.Error(k)
	}
	for _, n := range append(sizes(), wrong()...) {
		if All(n) != Open(n) {
			t.Error(n, All(n))
		}
		want := Open(n)
		var kinds []int
		for _, kind := range append(every(), every()...) {
			kinds, want = append(kinds, kind), want+Do(n, kind)
			if k := All(n, kinds...); k != want {
				t.Error(n, kinds, k, want)
			}
		}
		for _, kind := range every() {
			if k := All(n, kind, kind); k != Open(n)+2*Do(n, kind) {
				t.Error(n, kind, k)
			}
		}
	}
}

// done are the steps that were done on a disk by what is tried.
func done(d *disk.Disk, try func()) int {
	ops := d.Ops()
	try()
	return d.Ops() - ops
}

func noughts() string { return strings.Repeat("\x00", api.Sector) }

// rubbish is a disk on which no sector is one that a repository writes.
func rubbish(t *testing.T, n int) *disk.Disk {
	t.Helper()
	d, e := disk.Load(api.Image{Sectors: slices.Repeat([]string{strings.Repeat("\xff", api.Sector)}, n)})
	if e != api.OK {
		t.Fatal(n, e)
	}
	return d
}

// must is told what a step that nothing hinders answers.
func must(t *testing.T, e api.Errno) {
	t.Helper()
	if e != api.OK {
		t.Fatal(e)
	}
}

// lay does what opening a disk without a head writes: noughts wherever there are none, and the first head.
func lay(t *testing.T, d *disk.Disk) {
	for i := range d.Size() {
		s, e := d.Read(i)
		must(t, e)
		if s != noughts() {
			must(t, d.Write(i, noughts()))
		}
	}
	must(t, d.Flush())
	s, _ := seat.Put(api.Head{Epoch: 1, Num: 1})
	must(t, d.Write(seat.Slot(1), s))
	must(t, d.Flush())
}

// record does what a record takes: noughts behind it, a flush, itself, a flush.
func record(t *testing.T, d *disk.Disk, seq int) {
	behind, e := area.Place(d.Size(), 0, seq+1)
	must(t, e)
	must(t, d.Write(behind, noughts()))
	must(t, d.Flush())
	own, e := area.Place(d.Size(), 0, seq)
	must(t, e)
	s, e := entry.Put(api.Record{Epoch: 1, Seq: seq, Kind: api.Branch, Name: "main", New: strings.Repeat("x", api.Hash), Num: 2})
	must(t, e)
	must(t, d.Write(own, s))
	must(t, d.Flush())
}

// TestP45_2_TheStepsThatTheChaptersName does at most as much as bound says, where there is as much as there may be to write.
func TestP45_2_TheStepsThatTheChaptersName(t *testing.T) {
	for _, n := range []int{16, 17, 18, 64} {
		d := rubbish(t, n)
		if k := done(d, func() { lay(t, d) }); k > Open(n) {
			t.Error(n, "opening", k)
		}
		if k := done(d, func() { record(t, d, 0) }); k > Do(n, api.CBranch) {
			t.Error(n, "a branch", k)
		}
		if k := done(d, func() {
			for i := range area.Room(n, 0, 2) / api.Sector {
				must(t, d.Write(area.Log(n, 0, 0)+i, strings.Repeat("x", api.Sector)))
			}
			record(t, d, 1)
		}); k > Do(n, api.CCommit) {
			t.Error(n, "a commit", k)
		}
		if k := done(d, func() {
			for i := range area.Half(n) {
				must(t, d.Write(area.First(n, 1)+i, strings.Repeat("x", api.Sector)))
			}
			must(t, d.Flush())
			must(t, d.Write(0, noughts()))
			must(t, d.Flush())
		}); k > Do(n, api.CRepack) {
			t.Error(n, "a repack", k)
		}
	}
}

// opened opens a disk's repository, and tells whether that does too much.
func opened(t *testing.T, d *disk.Disk) *repo.Repo {
	t.Helper()
	var r *repo.Repo
	if k := done(d, func() { r, _ = repo.Open(d) }); k > Open(d.Size()) {
		t.Error("opening", d.Size(), k)
	}
	return r
}

// counted does a call, and tells whether that does too much.
func counted(t *testing.T, r *repo.Repo, c api.Call) api.Answer {
	t.Helper()
	var a api.Answer
	if k := done(r.Disk(), func() { a = r.Do(c) }); k > Do(r.Disk().Size(), c.Kind) {
		t.Error("a call", r.Disk().Size(), c, k)
	}
	return a
}

// play does calls of each kind, and tells which does too much.
func play(t *testing.T, r *repo.Repo) {
	t.Helper()
	do := func(c api.Call) string {
		t.Helper()
		return counted(t, r, c).Hash
	}
	node := func(id string) []api.Op { return []api.Op{{Kind: api.OpNode, Id: id}} }
	first := do(api.Call{Kind: api.CCommit, Name: "main", Ops: node("a")})
	do(api.Call{Kind: api.CBranch, Name: "x", Hash: first})
	do(api.Call{Kind: api.CTag, Name: "v", Hash: first})
	side := do(api.Call{Kind: api.CCommit, Name: "x", Old: first, Ops: node("b")})
	main := do(api.Call{Kind: api.CCommit, Name: "main", Old: first, Ops: node("c")})
	both := do(api.Call{Kind: api.CMerge, Name: "main", Old: main, Hash: side})
	do(api.Call{Kind: api.CMove, Name: "x", Old: side, Hash: both})
	for _, kind := range quiet() {
		do(api.Call{Kind: kind, Hash: both, Other: first, Id: "a"})
	}
	do(api.Call{Kind: api.CRepack})
	do(api.Call{Kind: api.CUntag, Name: "v", Old: first})
	do(api.Call{Kind: api.CDelete, Name: "x", Old: both})
	do(api.Call{Kind: api.CCollect})
	for _, kind := range every() { // refused ones
		do(api.Call{Kind: kind, Name: "-", Old: "-", Hash: "-", Other: "-"})
	}
}

func TestP45_2_NoCallOfARepositoryDoesMore(t *testing.T) {
	for _, n := range []int{16, 17, 18, 64, 4096} {
		blank, e := disk.New(n)
		must(t, e)
		for _, d := range []*disk.Disk{blank, rubbish(t, n)} {
			play(t, opened(t, d))
			opened(t, d)
			must(t, d.Over(3, strings.Repeat("\x77", api.Sector)))
			play(t, opened(t, d))
		}
	}
}

// Whatever is drawn, on disks that are full now and then; all kinds of calls are answered OK.
func TestP45_2_AnyCalls(t *testing.T) {
	var d sample.Dice
	met := map[int]int{}
	for _, n := range []int{16, 17, 50, 600, 4096} {
		x, e := disk.New(n)
		must(t, e)
		r, m, names := opened(t, x), model.New(), map[string]string{}
		for range 400 {
			c, was := calls.Drawn(&d, m.Seen(), 4), m.Copy()
			told := m.Do(c)
			for _, hash := range []*string{&c.Old, &c.Hash, &c.Other} {
				if s, made := names[*hash]; made {
					*hash = s
				}
			}
			a := counted(t, r, c)
			if a.Err == api.ErrFull {
				m = was
				continue
			}
			if a.Err == api.OK {
				met[c.Kind]++
			}
			if c.Kind == api.CCommit || c.Kind == api.CMerge {
				names[told.Hash] = a.Hash
			}
			if d.Below(30) == 0 {
				r = opened(t, x)
			}
		}
	}
	if len(met) != 19 {
		t.Error(met)
	}
}
