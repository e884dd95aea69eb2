package audit

import (
	"fmt"
	"maps"
	"slices"
	"strings"
	"testing"

	"pleach/api"
	"pleach/area"
	"pleach/calls"
	"pleach/chunk"
	"pleach/commit"
	"pleach/disk"
	"pleach/entry"
	"pleach/frame"
	"pleach/hand"
	"pleach/keys"
	"pleach/mark"
	"pleach/model"
	"pleach/quad"
	"pleach/repo"
	"pleach/sample"
	"pleach/seat"
	"pleach/sha"
	"pleach/shelf"
	"pleach/tree"
)

// graphOf is a graph of nodes, of which the first one has an edge to each other one.
func graphOf(ids ...string) api.Graph {
	var g api.Graph
	for i, id := range ids {
		g.Nodes = append(g.Nodes, api.Node{Id: id})
		if i > 0 {
			g.Edges = append(g.Edges, api.Edge{Id: "e" + id, From: ids[0], To: id})
		}
	}
	return g
}

func stands(t *testing.T, name string, e api.Errno) string {
	t.Helper()
	if e != api.OK {
		t.Fatal(e)
	}
	return name
}

// written stores a graph.
func written(t *testing.T, s *shelf.Shelf, g api.Graph) string {
	t.Helper()
	name, e := quad.Write(s, g)
	return stands(t, name, e)
}

func committed(t *testing.T, s *shelf.Shelf, num int, graph string, parents ...string) string {
	t.Helper()
	name, e := commit.Store(s, api.Commit{Num: num, Graph: graph, Parents: parents})
	return stands(t, name, e)
}

// many is Ids in so great a number that their maps have several chunks.
func many(n int) []string {
	var l []string
	for i := range n {
		l = append(l, fmt.Sprint("n", 100+i))
	}
	return l
}

// history is a shelf of some commits, and the last one's name.
func history(t *testing.T) (*shelf.Shelf, string) {
	t.Helper()
	s := shelf.New()
	one := committed(t, s, 1, written(t, s, graphOf("a", "b")))
	two := committed(t, s, 2, written(t, s, graphOf(many(60)...)), one)
	three := committed(t, s, 3, written(t, s, api.Graph{}), one)
	return s, committed(t, s, 9, written(t, s, graphOf("a", "b")), two, three)
}

// is tells whether just these faults are told.
func is(t *testing.T, what string, got []api.Fault, want ...api.Fault) {
	t.Helper()
	if !slices.Equal(got, want) {
		t.Errorf("%s: %q, want %q", what, got, want)
	}
}

// rising is faults by the names of the objects at which they are found, of one object as they stand.
func rising(of map[string][]api.Fault) []api.Fault {
	var l []api.Fault
	for _, name := range slices.Sorted(maps.Keys(of)) {
		l = append(l, of[name]...)
	}
	return l
}

func TestP42_1_NoFault(t *testing.T) {
	s, last := history(t)
	is(t, "a history", Shelf(s, api.Ref{Kind: api.Branch, Name: "main", Hash: last}, api.Ref{Kind: api.Tag, Name: "v", Hash: last}))
	is(t, "no objects", Shelf(shelf.New()))
	for _, none := range hand.NoShelves() {
		is(t, "no shelf", Shelf(none))
		is(t, "no shelf", Shelf(none, api.Ref{Name: "x"}), api.Fault{What: "ref", Name: "x"})
	}
}

func TestP42_1_Kind(t *testing.T) {
	s, _ := history(t)
	want := map[string][]api.Fault{}
	for _, text := range []string{"x", "C", "G", "L", "I", "G" + strings.Repeat("x", 129), "L\x00x", "C\x01", "\x00", "I\x00\x00", "Pack", "L\x01\x00\x00"} {
		name, e := s.Put(text)
		want[stands(t, name, e)] = []api.Fault{{What: "kind", Name: name}}
	}
	is(t, "kind", Shelf(s), rising(want)...)
}

// What is missing is told at each object that needs it, as often as it does.
func TestP42_1_Missing(t *testing.T) {
	all, last := history(t)
	for _, gone := range all.Names() {
		s := hand.Without(all, gone)
		want := map[string][]api.Fault{}
		for _, name := range s.Names() {
			text, _ := s.Get(name)
			needs, _ := mark.Names(text)
			for _, need := range needs {
				if need == gone {
					want[name] = append(want[name], api.Fault{What: "missing", Name: gone})
				}
			}
			if r, e := quad.Take(text); e == api.OK {
				for _, root := range []string{r.Nodes, r.Edges, r.Out, r.In} {
					if root != gone && slices.Contains(hand.Chunks(all, root), gone) {
						want[name] = append(want[name], api.Fault{What: "tree", Name: root})
					}
				}
				if _, e := quad.Read(s, name); e != api.OK {
					want[name] = append(want[name], api.Fault{What: "graph", Name: name})
				}
			}
		}
		faults := rising(want)
		if gone == last {
			faults = append(faults, api.Fault{What: "ref", Name: "main"})
		} else if len(faults) == 0 {
			t.Error("is needed by none")
		}
		is(t, "missing", Shelf(s, api.Ref{Kind: api.Branch, Name: "main", Hash: last}), faults...)
	}
}

// A commit must have a greater number than each of its parents.
func TestP42_1_Order(t *testing.T) {
	s := shelf.New()
	g := written(t, s, api.Graph{})
	five, six := committed(t, s, 5, g), committed(t, s, 6, g)
	want := map[string][]api.Fault{}
	for num, count := range map[int]int{4: 2, 5: 2, 6: 1, 7: 0} {
		name := committed(t, s, num, g, five, six)
		for range count {
			want[name] = append(want[name], api.Fault{What: "order", Name: name})
		}
	}
	one := committed(t, s, 5, g, five)
	want[one] = []api.Fault{{What: "order", Name: one}}
	committed(t, s, 7, g, six)
	odd := committed(t, s, 1, g, g) // a parent that is no commit
	is(t, "order", Shelf(s, api.Ref{Name: "x", Hash: odd}), rising(want)...)
}

// A tree that Build does not make, though no chunk of it is missing.
func TestP42_1_Tree(t *testing.T) {
	g := graphOf(many(40)...)
	lists, _ := keys.Lay(g)
	s := shelf.New()
	name := hand.Store(s, lists, hand.Odd)
	r, _ := quad.Load(s, name)
	is(t, "tree", Shelf(s), api.Fault{What: "tree", Name: r.Nodes}, api.Fault{What: "tree", Name: r.Edges}, api.Fault{What: "tree", Name: r.Out}, api.Fault{What: "tree", Name: r.In})
	s = shelf.New()
	hand.Store(s, lists, hand.Even)
	is(t, "the tree", Shelf(s))
	s = shelf.New()
	root := hand.Odd(s, lists[0]...)
	text := "G" + root + root + root + root
	b, e := s.Put(text)
	stands(t, b, e)
	l := slices.Repeat([]api.Fault{{What: "tree", Name: root}}, 4)
	is(t, "four times", Shelf(s), append(l, api.Fault{What: "graph", Name: b})...)
}

// What is no tree at all, though there is something by that name.
func TestP42_1_RootsOfSomethingElse(t *testing.T) {
	s := shelf.New()
	none, _ := tree.Build(s)
	g := written(t, s, api.Graph{})
	name, e := quad.Put(s, api.Roots{Nodes: g, Edges: none, Out: none, In: none})
	is(t, "a graph", Shelf(s), api.Fault{What: "tree", Name: g}, api.Fault{What: "graph", Name: stands(t, name, e)})
}

// Four maps, each of which is sound, that are no graph's.
func TestP42_1_Graph(t *testing.T) {
	s := shelf.New()
	lists, _ := keys.Lay(graphOf("a", "b"))
	want := map[string][]api.Fault{}
	for i := range lists {
		other := lists
		other[i] = nil
		name := hand.Store(s, other, hand.Even)
		want[name] = []api.Fault{{What: "graph", Name: name}}
	}
	other := lists
	other[0] = append(slices.Clone(lists[0]), api.Entry{Key: "c", Value: "no node"})
	name := hand.Store(s, other, hand.Even)
	want[name] = []api.Fault{{What: "graph", Name: name}}
	is(t, "graph", Shelf(s), rising(want)...)
}

func TestP42_1_Refs(t *testing.T) {
	s, last := history(t)
	var l []api.Ref
	var want []api.Fault
	for i, hash := range []string{"", "x", strings.Repeat("\x00", 32), s.Names()[0], last} {
		l = append(l, api.Ref{Kind: i, Name: fmt.Sprint("r", 9-i), Hash: hash})
		if _, e := commit.Load(s, hash); e != api.OK {
			want = append(want, api.Fault{What: "ref", Name: fmt.Sprint("r", 9-i)})
		}
	}
	is(t, "refs", Shelf(s, l...), want...)
	s.Put("x")
	is(t, "behind objects", Shelf(s, l...), append([]api.Fault{{What: "kind", Name: sha.Sum("x")}}, want...)...)
}

// A tree that has very many leaves by a few chunks is not gone through.
func TestP42_1_AThicket(t *testing.T) {
	s := shelf.New()
	none, _ := tree.Build(s)
	root := hand.Thicket(s, "n", "\x00\x00")
	name, e := quad.Put(s, api.Roots{Nodes: root, Edges: none, Out: none, In: none})
	is(t, "a thicket", Shelf(s), api.Fault{What: "tree", Name: root}, api.Fault{What: "graph", Name: stands(t, name, e)})
}

// opened is a repository that a test can't do without.
func opened(t *testing.T, d *disk.Disk) *repo.Repo {
	t.Helper()
	r, e := repo.Open(d)
	if e != api.OK {
		t.Fatal(e)
	}
	return r
}

func fresh(t *testing.T, n int) *repo.Repo {
	t.Helper()
	d, e := disk.New(n)
	if e != api.OK {
		t.Fatal(e)
	}
	return opened(t, d)
}

func node(id string) []api.Op { return []api.Op{{Kind: api.OpNode, Id: id}} }

func TestP42_2_Count(t *testing.T) {
	r := fresh(t, 100)
	if l := Count(r); !slices.Equal(l, []int{0, 0, 0, 0, 0}) {
		t.Error(l)
	}
	for _, none := range []*repo.Repo{nil, {}} {
		if l := Count(none); !slices.Equal(l, []int{0, 0, 0, 0, 0}) {
			t.Error(l)
		}
	}
	a := r.Do(api.Call{Kind: api.CCommit, Name: "main", Ops: node("a")})
	for _, x := range []struct {
		c    api.Call
		want []int
	}{
		{api.Call{Kind: api.CRefs}, []int{4, 1, 1, 2}}, // two maps: one of a node, and three of nothing
		{api.Call{Kind: api.CCommit, Name: "main", Old: a.Hash}, []int{5, 2, 1, 2}},
		{api.Call{Kind: api.CCommit, Name: "x"}, []int{7, 3, 2, 2}},
		{api.Call{Kind: api.CCommit, Name: "y", Ops: node("b")}, []int{10, 4, 3, 3}},
		{api.Call{Kind: api.CMove, Name: "main", Hash: a.Hash}, []int{10, 4, 3, 3}},
		{api.Call{Kind: api.CRepack}, []int{10, 4, 3, 3}},
	} {
		r.Do(x.c)
		_, _, tail := r.Head()
		l := Count(r)
		if x.c.Kind != api.CRepack && l[4] != tail { // as all objects stand in the log
			t.Error(l, tail)
		}
		var texts []string
		for _, name := range r.Objects() {
			text, _ := r.Object(name)
			texts = append(texts, text)
		}
		if !slices.Equal(l, append(x.want, frame.Size(texts...))) {
			t.Error(x.c, l, x.want)
		}
	}
}

// Above leaves there are chunks, too.
func TestP42_2_CountOfManyChunks(t *testing.T) {
	r := fresh(t, 1000)
	c := api.Call{Kind: api.CCommit, Name: "main"}
	for _, id := range many(60) {
		c.Ops = append(c.Ops, api.Op{Kind: api.OpNode, Id: id})
	}
	a := r.Do(c)
	root, _ := r.Root(a.Hash)
	text, _ := r.Object(root)
	roots, _ := quad.Take(text)
	top, _ := r.Object(roots.Nodes)
	above, _ := chunk.Take(top)
	l := Count(r)
	if above.Level < 1 || l[1] != 1 || l[2] != 1 || l[3] != l[0]-2 || l[3] < 60/8+2 {
		t.Error(l, above.Level)
	}
}

func TestP42_2_Loose(t *testing.T) {
	r := fresh(t, 200)
	is := func(want ...string) {
		t.Helper()
		slices.Sort(want)
		if l, e := Loose(r); !slices.Equal(l, want) || e != api.OK {
			t.Errorf("%q, want %q, %v", l, want, e)
		}
	}
	is()
	a := r.Do(api.Call{Kind: api.CCommit, Name: "main", Ops: node("a")})
	is()
	there := r.Objects()
	b := r.Do(api.Call{Kind: api.CCommit, Name: "main", Old: a.Hash, Ops: node("b")})
	is()
	var more []string
	for _, name := range r.Objects() {
		if !slices.Contains(there, name) {
			more = append(more, name)
		}
	}
	r.Do(api.Call{Kind: api.CTag, Name: "v", Hash: b.Hash})
	r.Do(api.Call{Kind: api.CMove, Name: "main", Old: b.Hash, Hash: a.Hash})
	is()
	r.Do(api.Call{Kind: api.CUntag, Name: "v", Old: b.Hash})
	is(more...)
	r.Do(api.Call{Kind: api.CRepack})
	is(more...)
	r.Do(api.Call{Kind: api.CDelete, Name: "main", Old: a.Hash})
	is(r.Objects()...)
	r.Do(api.Call{Kind: api.CCollect})
	is()
}

func TestP42_2_LoosesErrors(t *testing.T) {
	for _, none := range []*repo.Repo{nil, {}} {
		if l, e := Loose(none); l != nil || e != api.ErrNil {
			t.Error(l, e)
		}
		if l := Repo(none); l != nil {
			t.Error(l)
		}
	}
	r := fresh(t, 64)
	r.Disk().Arm(1)
	r.Do(api.Call{Kind: api.CCommit, Name: "main"})
	if l, e := Loose(r); l != nil || e != api.ErrDown {
		t.Error(l, e)
	}
	text, e := commit.Put(api.Commit{Num: 1, Graph: strings.Repeat("g", 32)})
	r = rotten(t, stands(t, text, e))
	if l, e := Loose(r); l != nil || e != api.ErrRot {
		t.Error(l, e)
	}
}

// rotten is a repository that has texts, of which main names the last one.
func rotten(t *testing.T, texts ...string) *repo.Repo {
	t.Helper()
	row, e := frame.Row(texts...)
	stands(t, row, e)
	d, e := disk.New(64)
	stands(t, "", e)
	for i := range area.Sectors(len(row)) {
		part, e := seat.Full(row[i*128 : min(i*128+128, len(row))])
		stands(t, part, e)
		d.Over(area.First(64, 0)+i, part)
	}
	record, e := entry.Put(api.Record{Epoch: 1, Kind: api.Branch, Name: "main", New: sha.Sum(texts[len(texts)-1]), Tail: len(row), Num: 2})
	stands(t, record, e)
	at, e := area.Place(64, 0, 0)
	stands(t, "", e)
	d.Over(at, record)
	head, e := seat.Put(api.Head{Epoch: 1, Num: 1})
	stands(t, head, e)
	d.Over(seat.Slot(1), head)
	return opened(t, d)
}

func TestP42_2_Repo(t *testing.T) {
	g := strings.Repeat("g", 32)
	text, e := commit.Put(api.Commit{Num: 1, Graph: g})
	stands(t, text, e)
	want := map[string][]api.Fault{sha.Sum("?"): {{What: "kind", Name: sha.Sum("?")}}, sha.Sum(text): {{What: "missing", Name: g}}}
	is(t, "a repository", Repo(rotten(t, "?", text)), rising(want)...)
	is(t, "an empty one", Repo(fresh(t, 16)))
}

// What calls led to has no fault, and behind a CCollect nothing is loose.
func TestP42_3_AnyCalls(t *testing.T) {
	var d sample.Dice
	for _, n := range []int{16, 60, 4096} {
		r, m, names := fresh(t, n), model.New(), map[string]string{}
		real := func(s string) string {
			if name, made := names[s]; made {
				return name
			}
			return s
		}
		collected, loose := 0, 0
		for range 400 {
			c := calls.Drawn(&d, m.Seen(), 4)
			was := m.Copy()
			told := m.Do(c)
			c.Old, c.Hash, c.Other = real(c.Old), real(c.Hash), real(c.Other)
			a := r.Do(c)
			if a.Err == api.ErrFull {
				m = was
			} else if c.Kind == api.CCommit || c.Kind == api.CMerge {
				names[told.Hash] = a.Hash
			}
			if d.Below(8) == 0 {
				is(t, "any calls", Repo(r))
			}
			l, e := Loose(r)
			if e != api.OK {
				t.Fatal(e)
			}
			loose += len(l)
			if c.Kind == api.CCollect && a.Err == api.OK {
				collected++
				if len(l) != 0 {
					t.Fatal(c, l)
				}
			}
			if d.Below(50) == 0 {
				r = opened(t, r.Disk())
			}
		}
		if collected == 0 || n > 16 && loose == 0 {
			t.Error(n, collected, loose)
		}
	}
}
