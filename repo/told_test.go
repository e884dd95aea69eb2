package repo

import (
	"reflect"
	"slices"
	"strings"
	"testing"

	"pleach/api"
	"pleach/area"
	"pleach/crc"
	"pleach/disk"
	"pleach/sample"
	"pleach/sha"
)

func TestP41_3_Objects(t *testing.T) {
	var d sample.Dice
	p := fresh(t, 1000)
	for range 30 {
		p.draws(&d, 10, 3)
		var names []string
		for _, text := range p.r.shelf.Texts(0) {
			name := sha.Sum(text)
			names = append(names, name)
			if s, ok := p.r.Object(name); s != text || !ok {
				t.Fatalf("%q", s)
			}
		}
		slices.Sort(names)
		if l := p.r.Objects(); !slices.Equal(l, names) {
			t.Fatal(len(l), len(names))
		}
	}
	for _, name := range []string{"", "x", strings.Repeat("\x00", 32), sha.Sum("x"), "#1"} {
		if s, ok := p.r.Object(name); s != "" || ok {
			t.Errorf("%q: %q", name, s)
		}
	}
}

func TestP41_3_Root(t *testing.T) {
	first, more, one, other := two(t)
	r := opened(t, good(t).disk(t))
	for name, text := range map[string]string{one: first[slices.IndexFunc(first, isGraph)], other: more[slices.IndexFunc(more, isGraph)]} {
		if root, e := r.Root(name); root != sha.Sum(text) || e != api.OK {
			t.Errorf("%q %v", root, e)
		}
	}
	for _, name := range []string{"", "x", "#1", sha.Sum(first[0]), sha.Sum(first[slices.IndexFunc(first, isGraph)]), strings.Repeat("\x00", 32)} {
		if root, e := r.Root(name); root != "" || e != api.ErrUnknown {
			t.Errorf("%q: %q %v", name, root, e)
		}
	}
}

// How many records there are, and how many bytes the log has, as calls go on.
func TestP41_3_Head(t *testing.T) {
	p := fresh(t, 100)
	is := func(want api.Head, records int, grown bool) {
		t.Helper()
		head, n, tail := p.r.Head()
		head.Pack = min(head.Pack, 1)
		if head != want || n != records || (tail > 0) != grown || tail != len(p.r.log.Text()) {
			t.Error(head, n, tail)
		}
	}
	is(api.Head{Epoch: 1, Num: 1}, 0, false)
	p.lines("commit main - - ; +node a")
	is(api.Head{Epoch: 1, Num: 1}, 1, true)
	p.lines("tag v #1")
	is(api.Head{Epoch: 1, Num: 1}, 2, true)
	p.lines("refs", "log #1", "stat")
	is(api.Head{Epoch: 1, Num: 1}, 2, true)
	p.lines("repack")
	is(api.Head{Epoch: 2, Half: 1, Pack: 1, Num: 2}, 2, false)
	p.lines("untag v #1", "commit x - -")
	is(api.Head{Epoch: 2, Half: 1, Pack: 1, Num: 2}, 4, true)
	p.reopen()
	is(api.Head{Epoch: 2, Half: 1, Pack: 1, Num: 2}, 4, true)
	p.lines("collect")
	is(api.Head{Epoch: 3, Half: 0, Pack: 1, Num: 3}, 2, false)
}

func TestP41_3_Disk(t *testing.T) {
	d := drive(t, 20)
	if r := opened(t, d); r.Disk() != d {
		t.Error("another disk")
	}
}

// The sum is of all sectors of the half that counts, and of no other one.
func TestP41_3_Sum(t *testing.T) {
	for _, n := range []int{16, 61} {
		p := fresh(t, n)
		for half := range 2 {
			p.line("commit main - - ; +node a ; +node b")
			first := area.First(n, half)
			want := crc.Of(p.r.Disk().Seize().Sectors[first : first+area.Half(n)]...)
			ops := p.r.Disk().Ops()
			if sum, e := p.r.Sum(); sum != want || e != api.OK || p.r.Disk().Ops() != ops+area.Half(n) {
				t.Error(n, sum, want, e)
			}
			for i := range n {
				d := p.r.Disk()
				was, _ := d.Read(i)
				d.Over(i, was[:127]+"\x77")
				d.Write(i, was[:127]+"\x78") // as it shows
				within := i >= first && i < first+area.Half(n)
				if sum, e := p.r.Sum(); (sum != want) != within || e != api.OK {
					t.Error(n, i, sum, e)
				}
				d.Write(i, was)
				d.Flush()
			}
			p.lines("repack")
		}
		p.r.Disk().Crash()
		if sum, e := p.r.Sum(); sum != 0 || e != api.ErrDown {
			t.Error(sum, e)
		}
	}
}

func TestP41_3_Clash(t *testing.T) {
	p := fresh(t, 64)
	p.lines("commit main - -", "repack")
	if a, b, met := p.r.Clash(); a != "" || b != "" || met {
		t.Error(a, b, met)
	}
}

func TestP41_3_NoRepo(t *testing.T) {
	for _, r := range []*Repo{nil, {}} {
		text, there := r.Object(strings.Repeat("x", 32))
		a, b, met := r.Clash()
		root, rootE := r.Root("x")
		head, records, tail := r.Head()
		sum, sumE := r.Sum()
		got := []any{text, there, r.Objects(), a, b, met, root, rootE, head, records, tail, r.Disk(), sum, sumE}
		want := []any{"", false, []string(nil), "", "", false, "", api.ErrNil, api.Head{}, 0, 0, (*disk.Disk)(nil), uint32(0), api.ErrNil}
		if !reflect.DeepEqual(got, want) {
			t.Error(got)
		}
	}
}
