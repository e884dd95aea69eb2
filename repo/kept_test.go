package repo

import (
	"testing"

	"pleach/api"
	"pleach/area"
	"pleach/commit"
	"pleach/disk"
	"pleach/entry"
	"pleach/frame"
	"pleach/pack"
	"pleach/quad"
	"pleach/seat"
	"pleach/shelf"
)

// kept is what a disk has, by its parts, laid there by hand.
type kept struct {
	n       int
	head    api.Head // its Pack is that of the pack, if more is not said
	pack    string
	log     string
	records []api.Record // their Epoch and Seq are those that must be, if 0
	fill    string       // what all other sectors show
}

// disk lays the parts on a disk.
func (k kept) disk(t testing.TB) *disk.Disk {
	t.Helper()
	d := drive(t, k.n)
	over := func(i int, s string, e api.Errno) {
		if e != api.OK || d.Over(i, s) != api.OK {
			t.Fatal(i, e)
		}
	}
	for i := range k.n {
		if k.fill != "" {
			over(i, k.fill, api.OK)
		}
	}
	if k.head.Pack == 0 {
		k.head.Pack = len(k.pack)
	}
	lay := func(first int, s string) {
		for i := range area.Sectors(len(s)) {
			part, e := seat.Full(s[i*128 : min(i*128+128, len(s))])
			over(first+i, part, e)
		}
	}
	lay(area.First(k.n, k.head.Half), k.pack)
	lay(area.Log(k.n, k.head.Half, k.head.Pack), k.log)
	for i, x := range k.records {
		if x.Epoch == 0 {
			x.Epoch, x.Seq = k.head.Epoch, i
		}
		s, e := entry.Put(x)
		at, _ := area.Place(k.n, k.head.Half, i)
		over(at, s, e)
	}
	s, e := seat.Put(k.head)
	over(seat.Slot(k.head.Epoch), s, e)
	return d
}

func packed(t testing.TB, texts ...string) string {
	t.Helper()
	s, e := pack.Make(texts...)
	if e != api.OK {
		t.Fatal(e)
	}
	return s
}

func framed(t testing.TB, texts ...string) string {
	t.Helper()
	s, e := frame.Row(texts...)
	if e != api.OK {
		t.Fatal(e)
	}
	return s
}

// two is the texts of a commit, those that a second one has more, and both names.
func two(t testing.TB) (first, more []string, one, other string) {
	t.Helper()
	s := shelf.New()
	store := func(k api.Commit, id string) string {
		g, e := quad.Write(s, api.Graph{Nodes: []api.Node{{Id: id}}})
		if e != api.OK {
			t.Fatal(e)
		}
		k.Graph = g
		hash, e := commit.Store(s, k)
		if e != api.OK {
			t.Fatal(e)
		}
		return hash
	}
	one = store(api.Commit{Num: 1}, "a")
	n := s.Len()
	other = store(api.Commit{Num: 2, Parents: []string{one}, Note: "two"}, "b")
	return s.Texts(0)[:n], s.Texts(n), one, other
}

// good is a disk's parts that are as they must be: a commit in the pack, one more in the log, which main names.
func good(t testing.TB) kept {
	t.Helper()
	first, more, one, other := two(t)
	k := kept{n: 64, head: api.Head{Epoch: 6, Half: 1, Num: 2}, pack: packed(t, first...), log: framed(t, more...)}
	k.records = []api.Record{
		{Kind: api.Branch, Name: "main", New: one, Num: 2},
		{Kind: api.Tag, Name: "v", New: one, Num: 2},
		{Kind: api.Branch, Name: "main", Old: one, New: other, Tail: len(k.log), Num: 3},
	}
	return k
}
