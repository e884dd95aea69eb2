package tree

import (
	"slices"
	"strconv"
	"testing"

	"pleach/api"
	"pleach/sha"
	"pleach/shelf"
)

// visit is what do is told of a leaf.
type visit struct {
	leaf api.Chunk
	twig api.Twig
}

// visits is what is told of a tree, as long as there are fewer than most.
func visits(s *shelf.Shelf, root string, most int) ([]visit, api.Errno) {
	var l []visit
	e := Each(s, root, func(c api.Chunk, t api.Twig) bool {
		l = append(l, visit{c, t})
		return len(l) < most
	})
	return l, e
}

// leavesOf is what must be told of the tree of entries.
func leavesOf(l []api.Entry) []visit {
	var want []visit
	chunks, _ := planted(l)
	for _, c := range chunks {
		if c.Level > 0 {
			break
		}
		t := api.Twig{Name: nameOf(c), Count: len(c.Entries)}
		if t.Count > 0 {
			t.Key = c.Entries[t.Count-1].Key
		}
		want = append(want, visit{c, t})
	}
	return want
}

func sameVisits(a, b []visit) bool {
	return slices.EqualFunc(a, b, func(x, y visit) bool { return x.twig == y.twig && same(x.leaf, y.leaf) })
}

// without is a shelf of all but one object.
func without(s *shelf.Shelf, name string) *shelf.Shelf {
	return s.Only(func(n string) bool { return n != name })
}

// odd are trees that are made by hand, of chunks that are as they must be, but not the trees of their entries; with the keys that their leaves have.
func odd(t *testing.T, s *shelf.Shelf) map[string][]string {
	a, ab, b, cd := leafOf(t, s, "a"), leafOf(t, s, "a", "b"), leafOf(t, s, "b"), leafOf(t, s, "c", "d")
	l := map[string][]string{
		overOf(t, s, 1, a).Name: {"a"},
		overOf(t, s, 2, overOf(t, s, 1, a), overOf(t, s, 1, b)).Name: {"a", "b"},
		overOf(t, s, 1, a, b, cd).Name:                               {"a", "b", "c", "d"},
		// what stands in the first chunk of a second one is not held against the first one
		overOf(t, s, 2, overOf(t, s, 1, a, b), overOf(t, s, 1, leafOf(t, s, "a", "c"))).Name:                 {"a", "b", "a", "c"},
		overOf(t, s, 2, overOf(t, s, 1, ab), overOf(t, s, 1, leafOf(t, s, "a", "b", "ba", "c"))).Name:        {"a", "b", "a", "b", "ba", "c"},
		overOf(t, s, 2, overOf(t, s, 1, ab), overOf(t, s, 1, leafOf(t, s, "b", "ba"), cd)).Name:              {"a", "b", "b", "ba", "c", "d"},
		overOf(t, s, 2, overOf(t, s, 1, ab, leafOf(t, s, "c")), overOf(t, s, 1, cd, leafOf(t, s, "e"))).Name: {"a", "b", "c", "c", "d", "e"},
	}
	// one leaf for what should be two, and chunks above of as many as may be
	keys := []string{"a", "b", "c", "d", "e", "f", "g", "h"}
	if one, _ := planted(row(keys)); len(one) == 1 {
		t.Fatal("these keys are not cut")
	}
	l[leafOf(t, s, keys...).Name] = keys
	var twigs []api.Twig
	for _, key := range keys {
		twigs = append(twigs, leafOf(t, s, key))
	}
	l[overOf(t, s, 1, twigs...).Name] = keys
	return l
}

// row is the entries of keys.
func row(keys []string) []api.Entry {
	var l []api.Entry
	for _, key := range keys {
		l = append(l, entry(key))
	}
	return l
}

func TestP20_3_Each(t *testing.T) {
	for _, n := range sizes() {
		s, root := built(t, entries(n))
		got, e := visits(s, root, n+1)
		if want := leavesOf(entries(n)); !sameVisits(got, want) || e != api.OK {
			t.Error(n, len(got), e, len(want))
		}
	}
}

func TestP20_3_EachOfTheEmptyMap(t *testing.T) {
	s, root := built(t, nil)
	got, e := visits(s, root, 9)
	if len(got) != 1 || got[0].twig != (api.Twig{Name: root}) || !same(got[0].leaf, api.Chunk{}) || e != api.OK {
		t.Error(got, e)
	}
}

func TestP20_3_EachAsLongAsItAnswersTrue(t *testing.T) {
	s, root := built(t, entries(200))
	want := leavesOf(entries(200))
	for most := 1; most <= len(want); most++ {
		if got, e := visits(s, root, most); !sameVisits(got, want[:most]) || e != api.OK {
			t.Error(most, len(got), e)
		}
		if most < len(want) { // what is behind is not looked at
			if got, e := visits(without(s, want[most].twig.Name), root, most); !sameVisits(got, want[:most]) || e != api.OK {
				t.Error(most, len(got), e)
			}
		}
	}
}

func TestP20_3_EachEndsAtTheFirstError(t *testing.T) {
	s, root := built(t, entries(200))
	want := leavesOf(entries(200))
	for i, v := range want {
		if got, e := visits(without(s, v.twig.Name), root, 999); !sameVisits(got, want[:i]) || e != api.ErrRot {
			t.Error(i, len(got), e)
		}
	}
	none, _ := s.Put(noChunk)
	for _, root := range []string{"", "x", none, sha.Sum("none")} {
		for _, s := range append(noShelves(), s) {
			if got, e := visits(s, root, 999); got != nil || e != api.ErrRot {
				t.Error(root, got, e)
			}
		}
	}
}

func TestP20_3_EachOfNothingToDo(t *testing.T) {
	s, root := built(t, entries(200))
	if e := Each(s, root, nil); e != api.OK {
		t.Error(e)
	}
	if e := Each(s, "x", nil); e != api.ErrRot {
		t.Error(e)
	}
	n := 0
	e := Each(s, root, func(api.Chunk, api.Twig) bool {
		n++
		if n == 3 {
			panic("three")
		}
		return true
	})
	if n != 3 || e != api.OK {
		t.Error(n, e)
	}
}

func TestP20_3_EachWhoseLeavesAreChanged(t *testing.T) {
	s, root := built(t, entries(200))
	want := leavesOf(entries(200))
	i := 0
	e := Each(s, root, func(c api.Chunk, twig api.Twig) bool {
		if !same(c, want[i].leaf) || twig != want[i].twig {
			t.Error(i, c, twig)
		}
		i++
		c.Entries = c.Entries[:cap(c.Entries)]
		for k := range c.Entries {
			c.Entries[k] = api.Entry{Key: "x", Value: "x"}
		}
		return true
	})
	if i != len(want) || e != api.OK {
		t.Error(i, e)
	}
	i = 0
	e = Each(s, root, func(api.Chunk, api.Twig) bool { // what it works on may be the shelf
		i++
		s.Cut(0)
		return true
	})
	if i != 1 || e != api.ErrRot {
		t.Error(i, e)
	}
}

func TestP20_3_AllAndBottom(t *testing.T) {
	for _, n := range sizes() {
		s, root := built(t, entries(n))
		var twigs []api.Twig
		for _, v := range leavesOf(entries(n)) {
			if v.twig.Count > 0 {
				twigs = append(twigs, v.twig)
			}
		}
		if got, e := All(s, root); !slices.Equal(got, entries(n)) || e != api.OK {
			t.Error(n, len(got), e)
		}
		if got, e := Bottom(s, root); !slices.Equal(got, twigs) || e != api.OK {
			t.Error(n, len(got), e)
		}
	}
}

// way is the names of the chunks that lead to a key, from the root on.
func way(s *shelf.Shelf, root, key string) []string {
	l := []string{root}
	for {
		c, e := Load(s, l[len(l)-1])
		if e != api.OK || c.Level == 0 {
			return l
		}
		i := 0
		for i < len(c.Entries) && c.Entries[i].Key < key {
			i++
		}
		if i == len(c.Entries) {
			return l
		}
		l = append(l, c.Entries[i].Value)
	}
}

func TestP20_3_WhereAChunkIsNotThere(t *testing.T) {
	l := entries(60)
	s, root := built(t, l)
	for _, gone := range s.Names() {
		left := without(s, gone)
		if got, e := All(left, root); got != nil || e != api.ErrRot {
			t.Errorf("%x: %v %v", gone, got, e)
		}
		if got, e := Bottom(left, root); got != nil || e != api.ErrRot {
			t.Errorf("%x: %v %v", gone, got, e)
		}
		if Sound(left, root) {
			t.Errorf("%x: sound", gone)
		}
		n, want := 60, api.OK
		if gone == root {
			n, want = 0, api.ErrRot
		}
		if got, e := Count(left, root); got != n || e != want {
			t.Errorf("%x: %v %v", gone, got, e)
		}
		for _, x := range append(entries(60), entry("k1"), entry("z")) {
			wantV, wantIs, _ := Get(s, root, x.Key)
			want := api.OK
			if slices.Contains(way(s, root, x.Key), gone) { // else it is not looked at
				wantV, wantIs, want = "", false, api.ErrRot
			}
			if v, ok, e := Get(left, root, x.Key); v != wantV || ok != wantIs || e != want {
				t.Errorf("%x: %s: %q %v %v, want %v", gone, x.Key, v, ok, e, want)
			}
		}
	}
}

func TestP20_3_NoRoot(t *testing.T) {
	s, _ := built(t, entries(60))
	none, _ := s.Put(noChunk)
	for _, root := range []string{"", "x", none, sha.Sum("none")} {
		for _, s := range append(noShelves(), s) {
			if got, e := All(s, root); got != nil || e != api.ErrRot {
				t.Error(got, e)
			}
			if got, e := Bottom(s, root); got != nil || e != api.ErrRot {
				t.Error(got, e)
			}
			if n, e := Count(s, root); n != 0 || e != api.ErrRot {
				t.Error(n, e)
			}
			if v, ok, e := Get(s, root, "k"); v != "" || ok || e != api.ErrRot {
				t.Error(v, ok, e)
			}
			if Sound(s, root) {
				t.Error("sound")
			}
		}
	}
}

func TestP20_3_Sound(t *testing.T) {
	for _, n := range sizes() {
		s, root := built(t, entries(n))
		was := s.Len()
		if !Sound(s, root) || s.Len() != was {
			t.Error(n)
		}
		for _, name := range s.Names() { // a piece of it may be a tree of its own
			if n < 100 && Sound(s, name) != soundAlone(t, s, name) {
				t.Errorf("%d: %x", n, name)
			}
		}
	}
}

// soundAlone tells whether a chunk is the root of the tree of what stands below it.
func soundAlone(t *testing.T, s *shelf.Shelf, name string) bool {
	l, e := All(s, name)
	if e != api.OK {
		t.Fatal(e)
	}
	_, root := planted(l)
	return root == name
}

func TestP20_3_OddTrees(t *testing.T) {
	s := shelf.New()
	for root, keys := range odd(t, s) {
		if got, e := All(s, root); !slices.Equal(got, row(keys)) || e != api.OK {
			t.Error(keys, got, e)
		}
		if n, e := Count(s, root); n != len(keys) || e != api.OK {
			t.Error(keys, n, e)
		}
		was := s.Len()
		if Sound(s, root) || s.Len() != was {
			t.Error(keys, "sound")
		}
	}
}

func TestP20_4_TheRootHangsOnTheEntriesAlone(t *testing.T) {
	full, _ := built(t, entries(500))
	for n := range 100 {
		l := entries(n)
		_, want := built(t, l)
		more := append(append([]api.Entry{}, l...), entry("z1"), entry("z2"))
		if got, e := Build(full, more[:n:n]...); got != want || e != api.OK {
			t.Error(n, e)
		}
		if got, e := Build(full, more[:n]...); got != want || e != api.OK || more[n] != entry("z1") { // spare room plays no part
			t.Error(n, e, more[n])
		}
		if n == 0 {
			continue
		}
		for _, change := range []func(x *api.Entry){
			func(x *api.Entry) { x.Value += "x" },
			func(x *api.Entry) { x.Key += "x" },
		} {
			for _, i := range []int{0, n / 2, n - 1} {
				l := entries(n)
				change(&l[i])
				if got, e := Build(full, l...); got == want || e != api.OK {
					t.Error(n, i, e)
				}
			}
		}
	}
}

func TestP20_4_AllLeadsBack(t *testing.T) {
	s := shelf.New()
	for _, n := range sizes() {
		for _, begin := range []int{0, n / 3} {
			l := entries(n)[begin:]
			root, _ := Build(s, l...)
			if got, e := All(s, root); !slices.Equal(got, l) || e != api.OK {
				t.Error(n, begin, len(got), e)
			}
		}
	}
	long := make([]byte, 64)
	l := []api.Entry{{Key: "\x00"}, {Key: string(long)}, {Key: "\x01", Value: "\x00"}, {Key: "a", Value: string(make([]byte, 2048))}, {Key: "\xff\xff"}}
	root, _ := Build(s, l...)
	if got, e := All(s, root); !slices.Equal(got, l) || e != api.OK {
		t.Error(got, e)
	}
}

// thicket is a chunk of a level, of a few chunks that stand in very many places, whose last key is the one with that number.
func thicket(t *testing.T, s *shelf.Shelf, met map[[2]int]api.Twig, level, number int) api.Twig {
	at := [2]int{level, number}
	if twig, ok := met[at]; ok {
		return twig
	}
	var twig api.Twig
	if level == 0 {
		twig = leafOf(t, s, "k"+strconv.Itoa(1000+number))
	} else {
		var l []api.Twig // of each but the first one the first chunk has one child alone, whose keys are held against none
		for i := range 2 {
			l = append(l, overOf(t, s, level-1, thicket(t, s, met, level-2, number-1+i)))
		}
		twig = overOf(t, s, level, l...)
	}
	met[at] = twig
	return twig
}

func TestP20_4_AllCallsEnd(t *testing.T) {
	s := shelf.New()
	top := thicket(t, s, map[[2]int]api.Twig{}, 40, 500)
	if n, e := Count(s, top.Name); n != 1<<20 || e != api.OK {
		t.Error(n, e)
	}
	if got, e := visits(s, top.Name, 1000); len(got) != 1000 || e != api.OK {
		t.Error(len(got), e)
	}
	was := s.Len()
	for range 1000 { // it ends where the keys do not rise
		if Sound(s, top.Name) {
			t.Fatal("sound")
		}
	}
	for i := range 50 {
		key := "k" + strconv.Itoa(1460+i)
		if v, ok, e := Get(s, top.Name, key); v != "v"+key && (v != "" || ok) || e != api.OK {
			t.Error(key, v, ok, e)
		}
	}
	if s.Len() != was {
		t.Error(s.Len(), was)
	}
}

func TestP20_4_ListsAreApart(t *testing.T) {
	s, root := built(t, entries(60))
	all, _ := All(s, root)
	for i := range all[:cap(all)] {
		all[:cap(all)][i] = api.Entry{}
	}
	bottom, _ := Bottom(s, root)
	for i := range bottom[:cap(bottom)] {
		bottom[:cap(bottom)][i] = api.Twig{}
	}
	c, _ := Load(s, root)
	c.Entries[0], c.Counts[0] = api.Entry{}, 0
	if got, e := All(s, root); !slices.Equal(got, entries(60)) || e != api.OK {
		t.Error(got, e)
	}
}
