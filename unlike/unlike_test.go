package unlike

import (
	"maps"
	"slices"
	"strconv"
	"strings"
	"testing"

	"pleach/api"
	"pleach/chunk"
	"pleach/edit"
	"pleach/sha"
	"pleach/shelf"
	"pleach/tree"
)

// entries is so many entries that rise.
func entries(n int) []api.Entry {
	var l []api.Entry
	for i := range n {
		l = append(l, api.Entry{Key: "k" + strconv.Itoa(100000+i*i), Value: strconv.Itoa(i)})
	}
	return l
}

// keyed is the entries of keys.
func keyed(keys ...string) []api.Entry {
	var l []api.Entry
	for _, key := range keys {
		l = append(l, api.Entry{Key: key, Value: "v" + key})
	}
	return l
}

// plant puts the tree of entries on a shelf.
func plant(t *testing.T, s *shelf.Shelf, l []api.Entry) string {
	t.Helper()
	root, e := tree.Build(s, l...)
	if e != api.OK {
		t.Fatal(e)
	}
	return root
}

// differ is where two maps are unlike, by the words alone.
func differ(a, b []api.Entry) []api.Delta {
	m := map[string]api.Delta{}
	for _, x := range a {
		m[x.Key] = api.Delta{Key: x.Key, Old: x.Value, Was: true}
	}
	for _, x := range b {
		d := m[x.Key]
		d.Key, d.New, d.Is = x.Key, x.Value, true
		m[x.Key] = d
	}
	var l []api.Delta
	for _, key := range slices.Sorted(maps.Keys(m)) {
		if d := m[key]; d.Was != d.Is || d.Old != d.New {
			l = append(l, d)
		}
	}
	return l
}

// chunks is the names of all chunks of a tree, but the root's.
func chunks(t *testing.T, s *shelf.Shelf, root string) []string {
	t.Helper()
	var l []string
	names := []string{root}
	for len(names) > 0 {
		c, e := tree.Load(s, names[0])
		if e != api.OK {
			t.Fatal(e)
		}
		names = names[1:]
		if c.Level > 0 {
			for _, x := range c.Entries {
				names = append(names, x.Value)
				l = append(l, x.Value)
			}
		}
	}
	return l
}

// without is a shelf of all but some objects.
func without(s *shelf.Shelf, names ...string) *shelf.Shelf {
	return s.Only(func(n string) bool { return !slices.Contains(names, n) })
}

// noShelves are those that no call made.
func noShelves() []*shelf.Shelf { return []*shelf.Shelf{nil, {}} }

// dice are numbers that follow from a first one.
type dice uint32

func (d *dice) below(n int) int {
	*d = *d*1664525 + 1013904223
	return int(uint32(*d)>>8) % n
}

// changed is entries of which some are others, or gone, and to which others have come.
func (d *dice) changed(l []api.Entry, changes int) []api.Entry {
	l = slices.Clone(l)
	for range changes {
		if len(l) == 0 {
			break
		}
		i := d.below(len(l))
		switch d.below(3) {
		case 0:
			l[i].Value += "x"
		case 1:
			l = slices.Delete(l, i, i+1)
		default:
			if key := l[i].Key + "\x00"; i == len(l)-1 || l[i+1].Key != key {
				l = slices.Insert(l, i+1, api.Entry{Key: key, Value: "new"})
			}
		}
	}
	return l
}

// told tells that Diff of two trees tells what it must, by a look at chunks that one of both has alone.
func told(t *testing.T, s *shelf.Shelf, a, b string) {
	t.Helper()
	ofA, e := tree.All(s, a)
	if e != api.OK {
		t.Fatal(e)
	}
	ofB, e := tree.All(s, b)
	if e != api.OK {
		t.Fatal(e)
	}
	want := differ(ofA, ofB)
	got, n, e := Diff(s, a, b)
	if e != api.OK || !slices.Equal(got, want) {
		t.Fatal(len(ofA), len(ofB), got, want, e)
	}
	inA, inB := append(chunks(t, s, a), a), append(chunks(t, s, b), b)
	alone, both := 0, []string{}
	for _, name := range inA[:len(inA)-1] {
		if !slices.Contains(inB, name) {
			alone++
		} else if name != b {
			both = append(both, name)
		}
	}
	for _, name := range inB[:len(inB)-1] {
		if !slices.Contains(inA, name) {
			alone++
		}
	}
	if n != alone {
		t.Fatal(len(ofA), len(ofB), n, alone)
	}
	got, n, e = Diff(without(s, both...), a, b) // what both have need not be there
	if e != api.OK || n != alone || !slices.Equal(got, want) {
		t.Fatal(len(ofA), len(ofB), got, n, e)
	}
}

func TestP23_1_DiffOfAFewKeys(t *testing.T) {
	values := []string{"", "x", "y"}
	var maps [][]api.Entry
	for n := range 256 { // of four keys each has one of the values, or is not there
		var l []api.Entry
		for _, key := range []string{"a", "b", "c", "d"} {
			if v := n % 4; v < 3 {
				l = append(l, api.Entry{Key: key, Value: values[v]})
			}
			n /= 4
		}
		maps = append(maps, l)
	}
	s := shelf.New()
	for _, l := range maps {
		plant(t, s, l)
	}
	for _, a := range maps {
		for i, b := range maps {
			got, n, e := Diff(s, plant(t, s, a), plant(t, s, b))
			if want := differ(a, b); e != api.OK || !slices.Equal(got, want) {
				t.Fatal(i, got, want, n, e)
			}
		}
	}
}

func TestP23_1_DiffOfMaps(t *testing.T) {
	var d dice
	for i := range 400 {
		s := shelf.New()
		n := d.below(60)
		if i%20 == 0 {
			n = 300
		}
		l := entries(n)
		a := plant(t, s, l)
		b := plant(t, s, d.changed(l, d.below(6)))
		told(t, s, a, b)
		told(t, s, b, a)
		told(t, s, a, plant(t, s, entries(d.below(100))))
	}
}

func TestP23_1_DiffOfEachChange(t *testing.T) {
	l := entries(90)
	for i := range l {
		s := shelf.New()
		a := plant(t, s, l)
		other := slices.Clone(l)
		other[i].Value = "new"
		told(t, s, a, plant(t, s, other))
		told(t, s, a, plant(t, s, slices.Delete(slices.Clone(l), i, i+1)))
		told(t, s, plant(t, s, slices.Insert(slices.Clone(l), i+1, api.Entry{Key: l[i].Key + "\x00"})), a)
		told(t, s, a, plant(t, s, l[:i]))
		told(t, s, a, plant(t, s, l[i:]))
		told(t, s, plant(t, s, l[:i]), plant(t, s, l[i:]))
	}
}

func TestP23_1_WasAndIs(t *testing.T) {
	s := shelf.New()
	a := plant(t, s, []api.Entry{{Key: "a"}, {Key: "b", Value: "x"}, {Key: "c", Value: "x"}, {Key: "e"}})
	b := plant(t, s, []api.Entry{{Key: "b"}, {Key: "c", Value: "x"}, {Key: "d"}, {Key: "e", Value: "y"}})
	want := []api.Delta{
		{Key: "a", Was: true},
		{Key: "b", Old: "x", Was: true, Is: true},
		{Key: "d", Is: true},
		{Key: "e", New: "y", Was: true, Is: true},
	}
	if got, _, e := Diff(s, a, b); e != api.OK || !slices.Equal(got, want) {
		t.Error(got, e)
	}
}

func TestP23_1_ATreeAndItself(t *testing.T) {
	for n := range 90 {
		s := shelf.New()
		root := plant(t, s, entries(n))
		for _, s := range []*shelf.Shelf{s, without(s, chunks(t, s, root)...)} { // nothing below the root is looked at
			if l, n, e := Diff(s, root, root); len(l) != 0 || n != 0 || e != api.OK {
				t.Error(l, n, e)
			}
		}
	}
}

func TestP23_1_APieceOfATree(t *testing.T) {
	s := shelf.New()
	root := plant(t, s, entries(300))
	none := plant(t, s, nil)
	for _, name := range chunks(t, s, root) { // what stands below it is its own: it is not looked at
		told(t, s, root, name)
		told(t, s, name, root)
		told(t, s, none, name)
		told(t, s, name, none)
	}
	told(t, s, none, root)
	told(t, s, root, none)
}

// put puts a chunk that is made by hand; its twig.
func put(t *testing.T, s *shelf.Shelf, c api.Chunk) api.Twig {
	t.Helper()
	twig, e := tree.Put(s, c)
	if e != api.OK {
		t.Fatal(e)
	}
	return twig
}

func leafOf(t *testing.T, s *shelf.Shelf, keys ...string) api.Twig {
	t.Helper()
	return put(t, s, api.Chunk{Entries: keyed(keys...)})
}

func overOf(t *testing.T, s *shelf.Shelf, level int, l ...api.Twig) api.Twig {
	t.Helper()
	return put(t, s, chunk.Over(level, l...))
}

func TestP23_1_OddTrees(t *testing.T) {
	s := shelf.New() // they are as they must be, and their keys rise, but they are not the trees of their entries
	one := func(keys ...string) api.Twig { return leafOf(t, s, keys...) }
	letters := strings.Split("abcdefgh", "")
	var single []api.Twig
	for _, key := range letters {
		single = append(single, one(key))
	}
	high := overOf(t, s, 1, one("b", "d"), one("e"), one("f", "g", "h", "i"))
	roots := []string{high.Name}
	for level := 2; level <= api.MaxLevel; level++ {
		high = overOf(t, s, level, high)
		if level%13 == 1 {
			roots = append(roots, high.Name)
		}
	}
	roots = append(roots,
		one(letters...).Name, one("a").Name, one("x").Name,
		overOf(t, s, 1, one("a")).Name,
		overOf(t, s, 2, overOf(t, s, 1, one("a"))).Name,
		overOf(t, s, 1, single...).Name,
		overOf(t, s, 1, single[1:7]...).Name,
		overOf(t, s, 1, one("a", "b", "c"), one("d"), one("e", "f", "g"), one("h")).Name,
		overOf(t, s, 2, overOf(t, s, 1, single[0]), overOf(t, s, 1, single[1:]...)).Name,
		overOf(t, s, 2, overOf(t, s, 1, single[:3]...), overOf(t, s, 1, one("d", "da"), single[4])).Name,
		plant(t, s, nil), plant(t, s, keyed(letters...)), plant(t, s, entries(60)),
	)
	for _, a := range roots {
		for _, b := range roots {
			told(t, s, a, b)
		}
	}
}

func TestP23_1_NoRoot(t *testing.T) {
	s := shelf.New()
	root := plant(t, s, entries(60))
	notOne, _ := s.Put("Lx")
	for _, name := range []string{"", "x", notOne, sha.Sum("none"), root[:31]} {
		for _, roots := range [][2]string{{name, root}, {root, name}, {name, name}} {
			for _, s := range append(noShelves(), s) {
				if l, n, e := Diff(s, roots[0], roots[1]); l != nil || n != 0 || e != api.ErrRot {
					t.Error(l, n, e)
				}
			}
		}
	}
	for _, s := range append(noShelves(), shelf.New()) {
		if l, n, e := Diff(s, root, root); l != nil || n != 0 || e != api.ErrRot {
			t.Error(l, n, e)
		}
	}
}

func TestP23_1_WhereAChunkIsNotThere(t *testing.T) {
	s := shelf.New()
	l := entries(200)
	a := plant(t, s, l)
	l[100].Value = "new"
	b := plant(t, s, l[:180])
	inA, inB := append(chunks(t, s, a), a), append(chunks(t, s, b), b)
	rotten := 0
	for _, gone := range s.Names() {
		left := without(s, gone)
		want := api.OK
		if !slices.Contains(inA, gone) || !slices.Contains(inB, gone) { // it must be looked at
			want = api.ErrRot
			rotten++
		}
		for _, roots := range [][2]string{{a, b}, {b, a}} {
			got, n, e := Diff(left, roots[0], roots[1])
			if e != want || e != api.OK && (got != nil || n != 0) || e == api.OK && n == 0 {
				t.Errorf("%x: %v %d %v, want %v", gone, got, n, e, want)
			}
		}
	}
	if rotten < 5 || rotten == s.Len() {
		t.Error(rotten)
	}
}

func TestP23_1_AChunkThatIsAnother(t *testing.T) {
	s := shelf.New()
	a, b, ab := leafOf(t, s, "a"), leafOf(t, s, "b"), leafOf(t, s, "a", "b")
	other := plant(t, s, keyed("x", "y"))
	for what, second := range map[string]api.Twig{
		"its first key":      ab,
		"its last key":       {Key: "c", Name: b.Name, Count: 1},
		"its count":          {Key: "b", Name: b.Name, Count: 2},
		"its level":          overOf(t, s, 1, b),
		"itself once more":   {Key: "aa", Name: a.Name, Count: 1},
		"the other's root":   {Key: "b", Name: other, Count: 2},
		"the chunk of none":  {Key: "b", Name: plant(t, s, nil), Count: 1},
		"what is not there":  {Key: "b", Name: sha.Sum("none"), Count: 1},
		"the name of a text": {Key: "b", Name: sha.Sum("a text"), Count: 1},
	} {
		s.Put("a text")
		root := overOf(t, s, 1, a, second).Name
		for _, roots := range [][2]string{{root, other}, {other, root}} {
			if what == "the other's root" { // the program need not look at it
				Diff(s, roots[0], roots[1])
				continue
			}
			if l, n, e := Diff(s, roots[0], roots[1]); l != nil || n != 0 || e != api.ErrRot {
				t.Error(what, l, n, e)
			}
		}
	}
}

// thicket is a chunk of a level, of a few chunks that stand in very many places, whose last key is the one with that number.
func thicket(t *testing.T, s *shelf.Shelf, met map[[2]int]api.Twig, level, number int) api.Twig {
	at := [2]int{level, number}
	if twig, ok := met[at]; ok {
		return twig
	}
	var twig api.Twig
	if level == 0 {
		twig = leafOf(t, s, "k"+strconv.Itoa(1000+number))
	} else {
		var l []api.Twig // of each but the first one the first chunk has one child alone, whose keys are held against none
		for i := range 8 {
			l = append(l, overOf(t, s, level-1, thicket(t, s, met, level-2, number-7+i)))
		}
		twig = overOf(t, s, level, l...)
	}
	met[at] = twig
	return twig
}

func TestP23_1_KeysThatDoNotRise(t *testing.T) {
	s := shelf.New() // no chunk tells of these trees that they are odd; what they have is told once, and rises
	roots := []string{plant(t, s, nil), plant(t, s, keyed("a", "b")), plant(t, s, entries(60))}
	for level := 2; level <= 20; level += 2 { // in the highest one stand 8^10 leaves
		roots = append(roots, thicket(t, s, map[[2]int]api.Twig{}, level, 100).Name)
	}
	for _, a := range roots {
		for _, b := range roots {
			l, n, e := Diff(s, a, b)
			if e != api.OK || n > s.Len() || a == b && len(l) != 0 {
				t.Error(len(l), n, e)
			}
			for i, d := range l {
				if i > 0 && d.Key <= l[i-1].Key || !d.Was && !d.Is || d.Was == d.Is && d.Old == d.New {
					t.Error(i, d)
				}
			}
		}
	}
}

func TestP23_2_Edits(t *testing.T) {
	got := Edits(
		api.Delta{Key: "a", Old: "x", New: "y", Was: true, Is: true},
		api.Delta{Key: "b", New: "y", Is: true},
		api.Delta{Key: "c", Old: "x", Was: true},
		api.Delta{Key: "d", Old: "x", New: "y"}, // it was not, and is not
		api.Delta{Key: "c", Old: "x", New: "y", Was: true},
		api.Delta{Key: "", Is: true},
	)
	want := []api.Edit{{Key: "a", Value: "y"}, {Key: "b", Value: "y"}, {Key: "c", Drop: true}, {Key: "c", Drop: true}, {}}
	if !slices.Equal(got, want) {
		t.Error(got)
	}
	if got := Edits(); len(got) != 0 {
		t.Error(got)
	}
	if got := Edits(api.Delta{Key: "a"}); len(got) != 0 {
		t.Error(got)
	}
}

func TestP23_2_Turn(t *testing.T) {
	l := []api.Delta{
		{Key: "b", Old: "x", New: "y", Was: true, Is: true},
		{Key: "a", New: "y", Is: true},
		{Key: "c", Old: "x", Was: true},
		{Key: "", Old: "x", New: "y"},
	}
	want := []api.Delta{
		{Key: "b", Old: "y", New: "x", Was: true, Is: true},
		{Key: "a", Old: "y", Was: true},
		{Key: "c", New: "x", Is: true},
		{Key: "", Old: "y", New: "x"},
	}
	was := slices.Clone(l)
	got := Turn(l...)
	if !slices.Equal(got, want) || !slices.Equal(l, was) {
		t.Error(got, l)
	}
	if back := Turn(got...); !slices.Equal(back, was) {
		t.Error(back)
	}
	got = Turn(l[:2]...)
	for i := range got[:cap(got)] {
		got[:cap(got)][i] = api.Delta{}
	}
	if !slices.Equal(l, was) {
		t.Error(l)
	}
	if got := Turn(); len(got) != 0 {
		t.Error(got)
	}
}

func TestP23_3_EditsLeadToTheOther(t *testing.T) {
	var d dice
	for range 400 {
		s := shelf.New()
		l := entries(d.below(80))
		a, b := plant(t, s, l), plant(t, s, d.changed(l, d.below(20)))
		there, _, e := Diff(s, a, b)
		if e != api.OK {
			t.Fatal(e)
		}
		if got, e := edit.Apply(s, a, Edits(there...)...); got != b || e != api.OK {
			t.Fatal(len(l), there, e)
		}
		if got, e := edit.Apply(s, b, Edits(Turn(there...)...)...); got != a || e != api.OK {
			t.Fatal(len(l), there, e)
		}
	}
}

func TestP23_3_TheOtherWayRound(t *testing.T) {
	var d dice
	for range 400 {
		s := shelf.New()
		l := entries(d.below(80))
		a, b := plant(t, s, l), plant(t, s, d.changed(l, d.below(20)))
		there, n, e := Diff(s, a, b)
		back, m, e2 := Diff(s, b, a)
		if e != api.OK || e2 != api.OK || n != m || !slices.Equal(back, Turn(there...)) {
			t.Fatal(len(l), there, back, n, m, e, e2)
		}
	}
}

func TestP23_3_TheShelfStaysAsItWas(t *testing.T) {
	s := shelf.New()
	a, b := plant(t, s, entries(60)), plant(t, s, entries(70)[5:])
	was := s.Texts(0)
	for range 2 {
		l, _, e := Diff(s, a, b)
		if e != api.OK || len(l) != 15 {
			t.Error(l, e)
		}
		for i := range l[:cap(l)] {
			l[:cap(l)][i] = api.Delta{}
		}
	}
	if !slices.Equal(s.Texts(0), was) {
		t.Error(s.Len(), len(was))
	}
}
