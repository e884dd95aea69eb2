package repo

import (
	"reflect"
	"testing"

	"pleach/api"
	"pleach/hand"
	"pleach/sample"
	"pleach/sha"
	"pleach/shelf"
	"pleach/tree"
)

// The disk's error: from then on all calls are answered ErrDown, whatever they are, till the disk is opened anew; what is there is told as it was.
func TestP41_2_TheDisksError(t *testing.T) {
	p := fresh(t, 100)
	p.lines("commit main - - ; +node a", "tag v #1", "branch x #1", "commit x #1 - ; +node b")
	for _, s := range []string{"commit main #1 - ; +node c", "merge main #1 #2 -", "tag w #1", "branch y #1", "move x #2 #1", "delete x #2", "untag v #1", "repack", "collect"} {
		c := parsed(t, s)
		for step := 1; step <= len(p.steps(c)); step++ {
			d := copied(t, p.r.Disk())
			r := opened(t, d)
			was := state(t, r)
			d.Arm(step)
			for range 2 {
				if a := r.Do(p.real(c)); !reflect.DeepEqual(a, api.Answer{Err: api.ErrDown}) {
					t.Fatal(s, step, a)
				}
			}
			d.Boot()
			for kind := -1; kind < 22; kind++ {
				if a := r.Do(api.Call{Kind: kind, Hash: p.names[1]}); !reflect.DeepEqual(a, api.Answer{Err: api.ErrDown}) {
					t.Fatal(s, step, kind, a)
				}
			}
			now := state(t, r)
			now.Refs, now.Nums, now.Image, now.Ops = was.Refs, was.Nums, was.Image, was.Ops // what Do and the disk tell
			same(t, s, now, was)
			if !sees(opened(t, d), p.m, p.names) {
				t.Fatal(s, step)
			}
		}
	}
}

// Where the power is gone, what is refused otherwise is refused so, what writes nothing is answered, and behind them the disk's error is met.
func TestP41_2_ThePowerIsGone(t *testing.T) {
	p := fresh(t, 100)
	p.lines("commit main - - ; +node a")
	p.r.Disk().Crash()
	for s, want := range map[string]api.Errno{
		"commit main - -": api.ErrTwice, "tag v #9": api.ErrUnknown, "commit main #1 - ; +node a": api.ErrTwice, "log #1": api.OK, "refs": api.OK, "checkout #1": api.OK, "move x #1 #1": api.ErrNone,
	} {
		if a := p.line(s); a.Err != want {
			t.Error(s, a)
		}
	}
	if a := p.r.Do(api.Call{Kind: api.CTag, Name: "v", Hash: p.names[1]}); a.Err != api.ErrDown {
		t.Error(a)
	}
	if a := p.r.Do(api.Call{Kind: api.CRefs}); a.Err != api.ErrDown {
		t.Error(a)
	}
}

// A repository goes on where the power went and came back between its calls: what it answered is there.
func TestP41_2_ThePowerComesBack(t *testing.T) {
	var d sample.Dice
	p := fresh(t, 400)
	for range 40 {
		p.draws(&d, 5, 3)
		p.r.Disk().Crash()
		p.r.Disk().Boot()
	}
	p.agree("the power came back")
	p.reopen()
	p.agree("the power came back")
}

// lacking is a good disk whose objects lack some, and have others more.
func lacking(t *testing.T, lacks func(text string) bool, more ...string) *Repo {
	t.Helper()
	first, later, _, _ := two(t)
	k := good(t)
	left := func(l []string) []string {
		var left []string
		for _, text := range l {
			if !lacks(text) {
				left = append(left, text)
			}
		}
		return left
	}
	k.pack, k.log = packed(t, left(first)...), framed(t, append(left(later), more...)...)
	k.records[2].Tail = len(k.log)
	return opened(t, k.disk(t))
}

// What is stored is not what it must be: all calls end, and those that need it tell so.
func TestP41_2_Rot(t *testing.T) {
	_, _, one, other := two(t)
	ask := func(kind int) api.Call { return api.Call{Kind: kind, Hash: other, Other: one, Id: "b"} }
	grow := []api.Call{
		{Kind: api.CCommit, Name: "main", Old: other, Ops: []api.Op{{Kind: api.OpNode, Id: "c"}}}, {Kind: api.CMerge, Name: "main", Old: other, Hash: one},
	}
	graphs := append(grow, ask(api.CCheckout), ask(api.CNode), ask(api.CLabelled), ask(api.CDiff))
	for what, c := range map[string]struct {
		lacks func(text string) bool
		calls []api.Call
	}{
		"the graphs": {isGraph, append(graphs, ask(api.COut), ask(api.CIn))},
		"the chunks": {func(s string) bool { return s[0] == 'L' }, graphs},
	} {
		r := lacking(t, c.lacks)
		was := state(t, r)
		for _, x := range append(c.calls, api.Call{Kind: api.CCollect}) {
			a := r.Do(x)
			if !reflect.DeepEqual(a, api.Answer{Err: api.ErrRot}) {
				t.Error(what, x, a)
			}
			same(t, what, state(t, r), was)
		}
		for kind := api.CCommit; kind <= api.CStat; kind++ {
			for _, hash := range []string{one, other} {
				r.Do(api.Call{Kind: kind, Name: "main", Old: hash, Hash: hash, Other: one, Id: "a"})
			}
		}
	}
}

// A parent that is not there, and one whose number is not less.
func TestP41_2_RotOfCommits(t *testing.T) {
	first, more, one, other := two(t)
	k := good(t)
	k.pack, k.log = "", framed(t, append(first[:len(first)-1], more...)...)
	k.records = []api.Record{{Kind: api.Branch, Name: "main", New: other, Tail: len(k.log), Num: 3}}
	r := opened(t, k.disk(t))
	for _, c := range []api.Call{{Kind: api.CLog, Hash: other}, {Kind: api.CBase, Hash: other, Other: other}, {Kind: api.CTag, Name: "v", Hash: one}, {Kind: api.CCheckout, Hash: one}} {
		if a := r.Do(c); !reflect.DeepEqual(a, api.Answer{Err: api.ErrUnknown}) {
			t.Error(c, a)
		}
	}
	if a := r.Do(api.Call{Kind: api.CCollect}); a.Err != api.ErrRot {
		t.Error(a)
	}
	k = good(t)
	k.head.Num, k.records[0].Num, k.records[1].Num, k.records[2].Num = 1, 1, 1, 2
	r = opened(t, k.disk(t))
	was := state(t, r)
	for _, c := range []api.Call{{Kind: api.CCommit, Name: "main", Old: other}, {Kind: api.CMerge, Name: "main", Old: other, Hash: one}} {
		if a := r.Do(c); !reflect.DeepEqual(a, api.Answer{Err: api.ErrRot}) {
			t.Error(c, a)
		}
		same(t, c, state(t, r), was)
	}
}

// A tree of a few chunks that stand in very many places is gone through by no call.
func TestP41_2_RotOfAThicket(t *testing.T) {
	s := shelf.New()
	root := hand.Thicket(s, "n", "\x00\x00")
	none, _ := tree.Build(s)
	for i := range 4 {
		roots := []string{none, none, none, none}
		roots[i] = root
		g, _ := s.Put("G" + roots[0] + roots[1] + roots[2] + roots[3])
		s.Put("C" + string(rune(3+i)) + "\x00" + g + "\x00")
	}
	k := good(t)
	texts := hand.Without(s, none).Texts(0) // which is there
	k.n, k.log = 4096, k.log+framed(t, texts...)
	k.records[2].Tail, k.records[2].Num = len(k.log), 9
	r := opened(t, k.disk(t))
	for _, text := range texts {
		if text[0] != 'C' {
			continue
		}
		hash := sha.Sum(text)
		r.Do(api.Call{Kind: api.CTag, Name: "t", Hash: hash})
		r.Do(api.Call{Kind: api.CBranch, Name: "b", Hash: hash})
		for kind := api.CCommit; kind <= api.CStat; kind++ {
			for _, id := range []string{"a", "n1000", "n"} {
				ops := []api.Op{{Kind: api.OpDropNode, Id: "n1000"}}
				r.Do(api.Call{Kind: kind, Name: "b", Old: hash, Hash: r.refs[0].Hash, Other: hash, Id: id, Ops: ops})
				r.Do(api.Call{Kind: kind, Name: "b", Old: hash, Hash: hash, Other: r.refs[0].Hash, Id: id})
			}
		}
	}
}
