package repo

import (
	"fmt"
	"reflect"
	"slices"
	"strings"
	"testing"

	"pleach/api"
	"pleach/area"
	"pleach/calls"
	"pleach/entry"
	"pleach/mark"
	"pleach/refs"
	"pleach/sample"
	"pleach/seat"
)

// met is a kind of calls, and what it was answered.
type met struct {
	kind int
	e    api.Errno
}

func TestP41_2_AnyCalls(t *testing.T) {
	var d sample.Dice
	all := map[met]int{}
	for _, n := range []int{16, 32, 64, 200, 1000, 4096} {
		p := fresh(t, n)
		for range 20 {
			for range 40 {
				c := calls.Drawn(&d, p.m.Seen(), 4)
				all[met{c.Kind, p.do(c).Err}]++
			}
			p.agree(n)
			p.reopen()
			p.agree(n)
		}
	}
	for kind, l := range map[int][]api.Errno{
		api.CCommit: {api.OK, api.ErrArg, api.ErrTwice, api.ErrNone, api.ErrStale, api.ErrBusy, api.ErrFull},
		api.CMerge:  {api.OK, api.ErrArg, api.ErrUnknown, api.ErrTwice, api.ErrNone, api.ErrStale, api.ErrConflict, api.ErrFull},
		api.CBranch: {api.OK, api.ErrArg, api.ErrUnknown, api.ErrTwice, api.ErrFull}, api.CTag: {api.OK, api.ErrArg, api.ErrUnknown, api.ErrTwice, api.ErrFull},
		api.CMove:   {api.OK, api.ErrArg, api.ErrUnknown, api.ErrNone, api.ErrStale, api.ErrFull},
		api.CDelete: {api.OK, api.ErrArg, api.ErrNone, api.ErrStale, api.ErrFull}, api.CUntag: {api.OK, api.ErrArg, api.ErrNone, api.ErrStale, api.ErrFull},
		api.CCheckout: {api.OK, api.ErrArg, api.ErrUnknown}, api.CNode: {api.OK, api.ErrArg, api.ErrUnknown, api.ErrNone},
		api.COut: {api.OK, api.ErrArg, api.ErrUnknown}, api.CIn: {api.OK, api.ErrArg, api.ErrUnknown}, api.CLabelled: {api.OK, api.ErrArg, api.ErrUnknown},
		api.CDiff: {api.OK, api.ErrArg, api.ErrUnknown}, api.CBase: {api.OK, api.ErrArg, api.ErrUnknown, api.ErrNone}, api.CLog: {api.OK, api.ErrArg, api.ErrUnknown},
		api.CRefs: {api.OK}, api.CRepack: {api.OK}, api.CCollect: {api.OK}, api.CStat: {api.OK}, -1: {api.ErrArg}, 0: {api.ErrArg}, 20: {api.ErrArg}, 21: {api.ErrArg},
	} {
		for _, e := range l {
			if all[met{kind, e}] == 0 {
				t.Error("never met:", kind, e)
			}
		}
	}
}

// As many refs as may be, and one more.
func TestP41_2_ManyRefs(t *testing.T) {
	p := fresh(t, 600)
	p.lines("commit main - - ; +node a")
	for i := range 63 {
		p.lines(fmt.Sprint("tag t", i, " #1"))
	}
	for _, s := range []string{"tag t63 #1", "branch x #1", "commit x - -"} {
		if a := p.line(s); a.Err != api.ErrLimit {
			t.Error(s, a)
		}
	}
	p.lines("repack", "untag t7 #1", "commit x - -", "collect")
	p.reopen()
	p.agree("64 refs")
	var d sample.Dice
	p.draws(&d, 300, 150)
	p.agree("64 refs")
}

// All lists that a call has, and that it is answered, are somebody else's.
func TestP41_2_Memory(t *testing.T) {
	var d sample.Dice
	p, twin := fresh(t, 2000), fresh(t, 2000)
	for range 300 {
		c := calls.Drawn(&d, twin.m.Seen(), 3)
		twin.do(c)
		p.names = twin.names
		c = p.real(c)
		c.Ops = sample.Room(c.Ops, api.Op{Id: "other"})
		was := sample.All(c.Ops)
		calls.Spoil(p.r.Do(c))
		if !slices.Equal(sample.All(c.Ops), was) {
			t.Fatal(c)
		}
		sample.Spoil(c.Ops)
		sample.Spoil(p.r.Objects())
		same(t, c, state(t, p.r), state(t, twin.r))
	}
}

func TestP41_2_NoRepo(t *testing.T) {
	for _, r := range []*Repo{nil, {}} {
		for kind := -1; kind < 22; kind++ {
			for _, c := range []api.Call{{Kind: kind}, {Kind: kind, Name: "A"}, {Kind: kind, Name: "main", Ops: make([]api.Op, 65)}} {
				if a := r.Do(c); !reflect.DeepEqual(a, api.Answer{Err: api.ErrNil}) {
					t.Error(c, a)
				}
			}
		}
	}
}

// What is made is just what a commit needs: no graph that it was made of, if that is nobody's.
func TestP41_2_WhatIsStored(t *testing.T) {
	p := fresh(t, 200)
	needed := func() {
		t.Helper()
		l, e := mark.Reach(p.r.shelf, refs.Hashes(p.r.refs...)...)
		if e != api.OK || !slices.Equal(p.r.Objects(), l) {
			t.Error(len(l), e, len(p.r.Objects()))
		}
	}
	p.lines("commit main - - ; +node a ; +node b ; +edge e a b")
	needed()
	if n := len(p.r.Objects()); n != 6 { // the commit, its graph, four maps of one chunk each
		t.Error(n)
	}
	p.lines("commit x - - ; +node c ; +node d ; +edge f c d")
	needed()
	if p.line("merge main #1 #9 -").Err != api.ErrUnknown {
		t.Error("unknown")
	}
	p.lines("merge main #1 #2 -") // they came of nothing
	needed()
	p.lines("commit y - -")
	needed()
	p.lines("commit z - -", "commit z #5 -")
	needed()
}

// flush stands for a flush among the steps of a call.
var flush = api.Write{At: -1}

// steps is what a call writes and flushes, in order, as it is seen where the power goes at each of its steps.
func (p *pair) steps(c api.Call) []api.Write {
	p.t.Helper()
	var l, ahead []api.Write
	for step := 1; ; step++ {
		d := copied(p.t, p.r.Disk())
		r := opened(p.t, d)
		d.Arm(step)
		a := r.Do(p.real(c))
		cache := d.Seize().Cache
		switch {
		case step == 1:
		case len(cache) == len(ahead)+1:
			l = append(l, cache[len(ahead)])
		case len(cache) == 0:
			l = append(l, flush)
		}
		if a.Err != api.ErrDown {
			if a.Err != api.OK || len(l) != step-1 {
				p.t.Fatal(c, a, step)
			}
			return l
		}
		ahead = cache
	}
}

// laid is the writes of a text, from a sector on.
func laid(first int, s string) []api.Write {
	var l []api.Write
	for i := 0; i < len(s); i += 128 {
		part, _ := seat.Full(s[i:min(i+128, len(s))])
		l = append(l, api.Write{At: first + i/128, Data: part})
	}
	return l
}

// recorded is the steps of a record, of that Seq, on a disk of 100 sectors, whose half 1 counts in epoch 2.
func recorded(t *testing.T, x api.Record) []api.Write {
	t.Helper()
	x.Epoch = 2
	s, e := entry.Put(x)
	if e != api.OK {
		t.Fatal(x, e)
	}
	return []api.Write{{At: 99 - x.Seq - 1, Data: noughts}, flush, {At: 99 - x.Seq, Data: s}, flush}
}

// A commit writes the log's sectors, noughts ahead of the next record, and behind a flush the record.
func TestP41_2_TheStepsOfACommit(t *testing.T) {
	p := fresh(t, 100)
	p.lines("commit main - - ; +node a ; +prop a k 'x", "tag v #1", "repack", "commit main #1 note ; +node b", "branch x #1")
	head, records, tail := p.r.Head()
	log := area.Log(100, 1, head.Pack)
	for _, s := range []string{"commit main #2 - ; +node c ; +node d ; +edge e c d", "commit new - - ; +node c", "merge x #1 #2 -", "commit x #1 -"} {
		c := p.real(parsed(t, s))
		done := opened(t, copied(t, p.r.Disk()))
		n := done.shelf.Len()
		hash := done.Do(c).Hash
		text := p.r.log.Text() + framed(t, done.shelf.Texts(n)...)
		want := laid(log+tail/128, text[tail/128*128:])
		want = append(want, recorded(t, api.Record{Seq: records, Kind: api.Branch, Name: c.Name, Old: c.Old, New: hash, Tail: len(text), Num: 4})...)
		if l := p.steps(parsed(t, s)); !slices.Equal(l, want) {
			t.Error(s, len(l), len(want))
		}
	}
}

// A call of a ref writes nothing but its record.
func TestP41_2_TheStepsOfARef(t *testing.T) {
	p := fresh(t, 100)
	p.lines("commit main - - ; +node a", "tag v #1", "repack", "commit main #1 -", "branch x #1")
	_, records, tail := p.r.Head()
	one, other := p.names[1], p.names[2]
	for s, x := range map[string]api.Record{
		"branch y #1": {Kind: api.Branch, Name: "y", New: one}, "tag x #2": {Kind: api.Tag, Name: "x", New: other}, "move x #1 #2": {Kind: api.Branch, Name: "x", Old: one, New: other},
		"move x #1 #1": {Kind: api.Branch, Name: "x", Old: one, New: one}, "delete x #1": {Kind: api.Branch, Name: "x", Old: one}, "untag v #1": {Kind: api.Tag, Name: "v", Old: one},
	} {
		x.Seq, x.Tail, x.Num = records, tail, 3
		if l := p.steps(parsed(t, s)); !slices.Equal(l, recorded(t, x)) {
			t.Error(s, l)
		}
	}
}

// The other half is written whole: a pack, noughts, and the records that make the refs; and, behind a flush, the head.
func TestP41_2_TheStepsOfARepack(t *testing.T) {
	p := fresh(t, 101)
	p.lines("commit main - - ; +node a", "commit main #1 - ; +node b", "tag v #1", "branch x #2", "repack", "commit y - -", "tag a #2", "delete y #3")
	for _, s := range []string{"repack", "collect"} {
		texts := p.r.shelf.Texts(0)
		if s == "collect" {
			only, _ := mark.Kept(p.r.shelf, p.names[1], p.names[2])
			texts = only.Texts(0)
		}
		all := packed(t, texts...)
		half := all + strings.Repeat("\x00", 49*128-len(all)-4*128)
		for _, x := range slices.Backward(refs.Records(3, 0, 4, p.r.refs...)) {
			s, _ := entry.Put(x)
			half += s
		}
		head, e := seat.Put(api.Head{Epoch: 3, Half: 0, Pack: len(all), Num: 4})
		want := append(laid(2, half), flush, api.Write{At: 1, Data: head}, flush)
		if l := p.steps(parsed(t, s)); !slices.Equal(l, want) || e != api.OK {
			t.Error(s, len(l), len(want))
		}
	}
}
