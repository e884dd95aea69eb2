package edit

import (
	"maps"
	"slices"
	"strconv"
	"strings"
	"testing"

	"pleach/api"
	"pleach/chunk"
	"pleach/cut"
	"pleach/sha"
	"pleach/shelf"
	"pleach/tree"
)

func set(key, value string) api.Edit { return api.Edit{Key: key, Value: value} }

func drop(key string) api.Edit { return api.Edit{Key: key, Drop: true} }

// entries is so many entries that rise.
func entries(n int) []api.Entry {
	var l []api.Entry
	for i := range n {
		l = append(l, api.Entry{Key: "k" + strconv.Itoa(100000+i*i), Value: strconv.Itoa(i)})
	}
	return l
}

// keyed is the entries of keys.
func keyed(keys ...string) []api.Entry {
	var l []api.Entry
	for _, key := range keys {
		l = append(l, api.Entry{Key: key, Value: "v" + key})
	}
	return l
}

// mapOf is a map of entries, and then of edits.
func mapOf(l []api.Entry, edits ...api.Edit) map[string]string {
	m := map[string]string{}
	for _, x := range l {
		m[x.Key] = x.Value
	}
	for _, x := range edits {
		if x.Drop {
			delete(m, x.Key)
		} else {
			m[x.Key] = x.Value
		}
	}
	return m
}

// merged is what a map has behind edits, by the words alone.
func merged(l []api.Entry, edits ...api.Edit) []api.Entry {
	m := mapOf(l, edits...)
	var want []api.Entry
	for _, key := range slices.Sorted(maps.Keys(m)) {
		want = append(want, api.Entry{Key: key, Value: m[key]})
	}
	return want
}

// rootOf is the root of the tree of entries.
func rootOf(t *testing.T, l []api.Entry) string {
	t.Helper()
	_, root := built(t, l)
	return root
}

// built is a shelf with the tree of entries.
func built(t *testing.T, l []api.Entry) (*shelf.Shelf, string) {
	t.Helper()
	s := shelf.New()
	root, e := tree.Build(s, l...)
	if e != api.OK {
		t.Fatal(e)
	}
	return s, root
}

// without is a shelf of all but one object.
func without(s *shelf.Shelf, name string) *shelf.Shelf {
	return s.Only(func(n string) bool { return n != name })
}

// noShelves are those that no call made.
func noShelves() []*shelf.Shelf { return []*shelf.Shelf{nil, {}} }

// dice are numbers that follow from a first one.
type dice uint32

func (d *dice) below(n int) int {
	*d = *d*1664525 + 1013904223
	return int(uint32(*d)>>8) % n
}

// some is edits that rise, of keys that entries have and of others.
func (d *dice) some(l []api.Entry, most int) []api.Edit {
	m := map[string]api.Edit{}
	for range d.below(most + 1) {
		key := "k" + strconv.Itoa(100000+d.below(len(l)*len(l)+10))
		if len(l) > 0 && d.below(3) > 0 {
			key = l[d.below(len(l))].Key
		}
		m[key] = set(key, strconv.Itoa(d.below(3)))
		if d.below(2) == 0 {
			m[key] = drop(key)
		}
	}
	var edits []api.Edit
	for _, key := range slices.Sorted(maps.Keys(m)) {
		edits = append(edits, m[key])
	}
	return edits
}

func TestP22_1_Check(t *testing.T) {
	long, big := strings.Repeat("k", 64), strings.Repeat("v", 2048)
	for i, x := range []struct {
		l    []api.Edit
		want api.Errno
	}{
		{nil, api.OK},
		{[]api.Edit{}, api.OK},
		{[]api.Edit{{Key: "a"}}, api.OK},
		{[]api.Edit{set(long, big)}, api.OK},
		{[]api.Edit{drop(long)}, api.OK},
		{[]api.Edit{set("\x00", ""), drop("\x00\x00"), set("a", "\x00"), drop("b"), set("\xff", "x")}, api.OK},
		{[]api.Edit{set("", "x")}, api.ErrArg},
		{[]api.Edit{drop("")}, api.ErrArg},
		{[]api.Edit{set(long+"k", "x")}, api.ErrArg},
		{[]api.Edit{drop(long + "k")}, api.ErrArg},
		{[]api.Edit{set("a", big+"v")}, api.ErrArg},
		{[]api.Edit{{Key: "a", Value: "x", Drop: true}}, api.ErrArg},
		{[]api.Edit{{Key: "a", Value: "\x00", Drop: true}}, api.ErrArg},
		{[]api.Edit{set("a", "x"), set("a", "y")}, api.ErrOrder},
		{[]api.Edit{set("a", "x"), drop("a")}, api.ErrOrder},
		{[]api.Edit{set("b", "x"), set("a", "x")}, api.ErrOrder},
		{[]api.Edit{set("a", "x"), set("c", "x"), drop("b")}, api.ErrOrder},
		{[]api.Edit{set("\xff", "x"), set("a", "x")}, api.ErrOrder}, // byte by byte
		{[]api.Edit{set("10", "x"), set("9", "x")}, api.OK},
		// edit by edit: the first one that may not be, and of one edit ErrArg
		{[]api.Edit{set("b", "x"), set("a", "x"), set("", "x")}, api.ErrOrder},
		{[]api.Edit{set("b", "x"), set("", "x"), set("a", "x")}, api.ErrArg},
		{[]api.Edit{set("b", "x"), set("a", big+"v")}, api.ErrArg},
		{[]api.Edit{set("b", "x"), {Key: "b", Value: "x", Drop: true}}, api.ErrArg},
	} {
		if e := Check(x.l...); e != x.want {
			t.Error(i, e, x.want)
		}
	}
}

func TestP22_1_Merge(t *testing.T) {
	keys := []string{"a", "b", "c", "d", "e"}
	for has := range 1 << len(keys) {
		var l []api.Entry
		for i, key := range keys {
			if has>>i&1 == 1 {
				l = append(l, keyed(key)...)
			}
		}
		for do := range 243 {
			var edits []api.Edit
			for _, key := range keys {
				switch do % 3 {
				case 1:
					edits = append(edits, set(key, "new"))
				case 2:
					edits = append(edits, drop(key))
				}
				do /= 3
			}
			if got, want := Merge(l, edits...), merged(l, edits...); !slices.Equal(got, want) {
				t.Fatal(l, edits, got, want)
			}
		}
	}
}

func TestP22_1_MergeOfAnything(t *testing.T) {
	if l := Merge(nil); len(l) != 0 {
		t.Error(l)
	}
	if l := Merge([]api.Entry{}, []api.Edit{}...); len(l) != 0 {
		t.Error(l)
	}
	odd := append(keyed("c", "a", "a", ""), api.Entry{Key: strings.Repeat("k", 99)})
	for n := range len(odd) + 1 { // keys that do not rise mean nothing, but it ends
		Merge(odd[:n], drop("b"), set("a", "x"), set("a", "y"), drop(""))
	}
}

func TestP22_1_MergeIsApart(t *testing.T) {
	l, edits := keyed("a", "b", "c", "d"), []api.Edit{set("aa", "x"), drop("b"), set("z", "x")}
	wasL, wasEdits := slices.Clone(l), slices.Clone(edits)
	for n := range len(l) + 1 {
		for k := range len(edits) + 1 {
			got := Merge(l[:n], edits[:k]...)
			for i := range got[:cap(got)] {
				got[:cap(got)][i] = api.Entry{Key: "!"}
			}
		}
	}
	if !slices.Equal(l, wasL) || !slices.Equal(edits, wasEdits) {
		t.Error(l, edits)
	}
}

// applied tells that Apply makes of the tree of entries that of the map behind edits.
func applied(t *testing.T, l []api.Entry, edits ...api.Edit) {
	t.Helper()
	s, root := built(t, l)
	want := merged(l, edits...)
	got, e := Apply(s, root, edits...)
	if e != api.OK || got != rootOf(t, want) {
		t.Fatalf("%d entries, %v: %x %v", len(l), edits, got, e)
	}
	if all, e := tree.All(s, got); e != api.OK || !slices.Equal(all, want) || !tree.Sound(s, got) {
		t.Fatalf("%d entries, %v: %v", len(l), edits, e)
	}
	if all, e := tree.All(s, root); e != api.OK || !slices.Equal(all, l) {
		t.Fatalf("%d entries, %v: the old tree: %v", len(l), edits, e)
	}
}

func TestP22_2_ApplyOneEdit(t *testing.T) {
	for n := range 40 {
		l := entries(n)
		applied(t, l)
		for _, key := range []string{"\x00", "k", "z", "\xff\xff"} {
			applied(t, l, set(key, "x"))
			applied(t, l, set(key, ""))
			applied(t, l, drop(key))
		}
		for _, x := range l {
			applied(t, l, drop(x.Key))
			applied(t, l, set(x.Key, "new"))
			applied(t, l, set(x.Key, x.Value))
			applied(t, l, set(x.Key+"x", "new"))
			applied(t, l, drop(x.Key+"x"))
		}
	}
}

func TestP22_2_ApplyManyEdits(t *testing.T) {
	var d dice
	for i := range 1500 {
		n := d.below(60)
		if i%20 == 0 {
			n = d.below(600)
		}
		l := entries(n)
		applied(t, l, d.some(l, 1+d.below(n+3))...)
	}
}

func TestP22_2_ApplyInARow(t *testing.T) {
	l := entries(50)
	for i := range l { // what stands from one place to another one goes
		for k := i; k <= len(l); k++ {
			var edits []api.Edit
			for _, x := range l[i:k] {
				edits = append(edits, drop(x.Key))
			}
			applied(t, l, edits...)
		}
	}
	for n := range 60 { // the first entries come, and those of the end
		var edits []api.Edit
		for _, x := range l[:min(n, len(l))] {
			edits = append(edits, set(x.Key, x.Value))
		}
		applied(t, nil, edits...)
		applied(t, l[min(n, len(l)):], edits...)
		applied(t, keyed("a"), edits...)
		applied(t, keyed("z"), edits...)
		applied(t, keyed("z", "zz", "zzz"), edits...)
	}
}

func TestP22_2_TheRootThatWas(t *testing.T) {
	s, root := built(t, entries(100))
	was := s.Len()
	for _, edits := range [][]api.Edit{
		nil,
		{drop("k")},
		{drop("z")},
		{drop("a"), drop("k100050"), drop("z")},
		{set("k100000", "0"), set("k100001", "1")},
	} {
		if got, e := Apply(s, root, edits...); got != root || e != api.OK {
			t.Error(edits, e)
		}
	}
	if s.Len() != was {
		t.Error(s.Len(), was)
	}
	with, _ := Set(s, root, "k5", "x")
	if back, e := Drop(s, with, "k5"); back != root || with == root || e != api.OK {
		t.Error(e)
	}
}

func TestP22_2_TheEmptyMap(t *testing.T) {
	s, none := built(t, nil)
	if got, e := Apply(s, none); got != none || e != api.OK {
		t.Error(e)
	}
	if got, e := Apply(s, none, drop("a"), drop("b")); got != none || e != api.OK {
		t.Error(e)
	}
	s, root := built(t, keyed("a", "b")) // the chunk of nothing comes on the shelf
	got, e := Apply(s, root, drop("a"), drop("b"))
	if got != none || e != api.OK || !s.Has(none) {
		t.Error(e)
	}
	if got, e := Apply(s, got, set("a", "va"), set("b", "vb")); got != root || e != api.OK {
		t.Error(e)
	}
}

func TestP22_2_ErrorsInOrder(t *testing.T) {
	s, root := built(t, entries(100))
	notOne, _ := s.Put("Lx")
	was := s.Len()
	bad := map[api.Errno][]api.Edit{
		api.ErrArg:   {set("", "x")},
		api.ErrOrder: {set("b", "x"), set("a", "x")},
	}
	for want, edits := range bad { // Check's are ahead of Bottom's
		for _, name := range []string{root, "", "x", notOne} {
			for _, s := range append(noShelves(), s) {
				if got, e := Apply(s, name, edits...); got != "" || e != want {
					t.Errorf("%x %v, want %v", got, e, want)
				}
			}
		}
	}
	for _, edits := range [][]api.Edit{nil, {set("a", "x")}, {drop("a")}} {
		for _, name := range []string{"", "x", notOne, sha.Sum("none"), root[:31]} {
			if got, e := Apply(s, name, edits...); got != "" || e != api.ErrRot {
				t.Errorf("%x %v", got, e)
			}
		}
		for _, s := range append(noShelves(), shelf.New()) {
			if got, e := Apply(s, root, edits...); got != "" || e != api.ErrRot {
				t.Errorf("%x %v", got, e)
			}
		}
	}
	if s.Len() != was {
		t.Error(s.Len(), was)
	}
}

func TestP22_2_BottomsError(t *testing.T) {
	l := entries(100)
	s, root := built(t, l)
	for _, gone := range s.Names() { // a leaf that stays the same is looked at by Bottom, too
		left := without(s, gone)
		was := left.Len()
		for _, edits := range [][]api.Edit{nil, {set("a", "x")}, {set("z", "x")}, {drop(l[50].Key)}} {
			if got, e := Apply(left, root, edits...); got != "" || e != api.ErrRot {
				t.Errorf("%x: %x %v", gone, got, e)
			}
		}
		if left.Len() != was {
			t.Errorf("%x: %d %d", gone, left.Len(), was)
		}
	}
}

// put puts a chunk that is made by hand; its twig.
func put(t *testing.T, s *shelf.Shelf, c api.Chunk) api.Twig {
	t.Helper()
	twig, e := tree.Put(s, c)
	if e != api.OK {
		t.Fatal(e)
	}
	return twig
}

func leafOf(t *testing.T, s *shelf.Shelf, keys ...string) api.Twig {
	t.Helper()
	return put(t, s, api.Chunk{Entries: keyed(keys...)})
}

func overOf(t *testing.T, s *shelf.Shelf, level int, l ...api.Twig) api.Twig {
	t.Helper()
	return put(t, s, chunk.Over(level, l...))
}

// odd are trees that are made by hand, of chunks that are as they must be, whose keys rise, but which are not the trees of their entries.
func odd(t *testing.T, s *shelf.Shelf) []string {
	one := func(keys ...string) api.Twig { return leafOf(t, s, keys...) }
	letters := strings.Split("abcdefgh", "")
	var single []api.Twig
	for _, key := range letters {
		single = append(single, one(key))
	}
	high := overOf(t, s, 1, one("b", "d"), one("e"), one("f", "g", "h", "i"))
	for level := 2; level <= api.MaxLevel; level++ {
		high = overOf(t, s, level, high)
	}
	l := []api.Twig{
		one(letters...),
		overOf(t, s, 1, one("a")),
		overOf(t, s, 1, single...),
		overOf(t, s, 1, one("a", "b", "c"), one("d"), one("e", "f", "g"), one("h")),
		overOf(t, s, 2, overOf(t, s, 1, single[0]), overOf(t, s, 1, single[1:]...)),
		high,
	}
	var roots []string
	for _, twig := range l {
		if tree.Sound(s, twig.Name) {
			t.Fatal("sound")
		}
		roots = append(roots, twig.Name)
	}
	return roots
}

func TestP22_2_OddTrees(t *testing.T) {
	s := shelf.New()
	for i, root := range odd(t, s) {
		l, _ := tree.All(s, root)
		var batches [][]api.Edit
		for _, key := range strings.Split("0abcdefghijz", "") {
			batches = append(batches, []api.Edit{set(key, "new")}, []api.Edit{set(key, "v"+key)}, []api.Edit{drop(key)}, []api.Edit{set(key+"x", "new")})
		}
		var all []api.Edit
		for _, x := range l {
			all = append(all, drop(x.Key))
		}
		batches = append(batches, nil, all, append(slices.Clone(all), set("z", "x")), []api.Edit{set("0", "x"), drop("c"), set("cc", "x"), drop("h"), set("z", "x")})
		for _, edits := range batches {
			got, e := Apply(s, root, edits...)
			if all, e := tree.All(s, got); e != api.OK || !slices.Equal(all, merged(l, edits...)) {
				t.Error(i, edits, all, e)
			}
			if e != api.OK {
				t.Error(i, edits, e)
			}
		}
	}
}

func TestP22_2_KeysThatDoNotRise(t *testing.T) {
	s := shelf.New() // no chunk tells of these trees that they are odd
	for _, root := range []string{
		overOf(t, s, 2, overOf(t, s, 1, leafOf(t, s, "a"), leafOf(t, s, "m")), overOf(t, s, 1, leafOf(t, s, "a", "c", "p"), leafOf(t, s, "q"))).Name,
		overOf(t, s, 2, overOf(t, s, 1, leafOf(t, s, "a", "m")), overOf(t, s, 1, leafOf(t, s, "m", "n"), leafOf(t, s, "o"))).Name,
	} {
		was := s.Len()
		if got, e := Apply(s, root); got != root || e != api.OK {
			t.Error(e)
		}
		for _, edits := range [][]api.Edit{{set("z", "x")}, {drop("a")}, {drop("0")}} {
			if got, e := Apply(s, root, edits...); got != "" || e != api.ErrOrder {
				t.Errorf("%v: %x %v", edits, got, e)
			}
		}
		if s.Len() != was {
			t.Error(s.Len(), was)
		}
	}
}

func TestP22_2_LeavesThatStay(t *testing.T) {
	l := entries(600)
	s, root := built(t, l)
	leaves, _ := tree.Bottom(s, root)
	for i := 0; i < len(l); i += 7 {
		for _, edits := range [][]api.Edit{{set(l[i].Key, "new")}, {drop(l[i].Key)}, {set(l[i].Key+"x", "new")}} {
			was := s.Len()
			got, e := Apply(s, root, edits...)
			if n, _ := Kept(s, root, got); e != api.OK || n < len(leaves)-6 {
				t.Error(i, edits, n, len(leaves), e)
			}
			if s.Len()-was > 15 {
				t.Error(i, edits, s.Len()-was)
			}
		}
	}
}

func TestP22_2_ALeafThatStaysIsNotCutAnew(t *testing.T) {
	s := shelf.New() // by its keys none of these is a leaf: looked at once more, they would be cut otherwise
	ahead, touched, behind := leafOf(t, s, "a"), leafOf(t, s, "k"), leafOf(t, s, "x")
	root := overOf(t, s, 1, ahead, touched, behind).Name
	got, e := Apply(s, root, set("b", "x"), drop("k"), set("m", "x"))
	leaves, _ := tree.Bottom(s, got)
	if e != api.OK || len(leaves) == 0 || leaves[0] != ahead {
		t.Error(leaves, e)
	}
	got, e = Apply(s, root, drop("k"))
	if leaves, _ := tree.Bottom(s, got); e != api.OK || !slices.Equal(leaves, []api.Twig{ahead, behind}) {
		t.Error(leaves, e)
	}
}

func TestP22_2_TheShelfsError(t *testing.T) {
	var many []api.Edit // of several leaves
	for _, x := range entries(30) {
		many = append(many, set(x.Key, x.Value))
	}
	for _, edits := range [][]api.Edit{many[:1], many} { // no tree leads to a shelf that puts none, but a row may
		r := &row{Cutter: cut.New(0)}
		if e := r.fill(nil, edits); e != api.ErrNil {
			t.Error(e)
		}
	}
	s := shelf.New()
	r := &row{Cutter: cut.New(0), shelf: s, err: api.ErrClash}
	if e := r.fill(nil, many); e != api.ErrClash || s.Len() != 0 { // behind an error none is put
		t.Error(e, s.Len())
	}
	r = &row{Cutter: cut.New(0), shelf: s}
	if e := r.fill([]api.Twig{{Key: "k", Name: "x", Count: 1}}, many); e != api.ErrRot {
		t.Error(e)
	}
}

func TestP22_2_SetAndDrop(t *testing.T) {
	long, big := strings.Repeat("k", 64), strings.Repeat("v", 2048)
	l := entries(20)
	s, root := built(t, l)
	for _, key := range []string{"a", l[0].Key, l[7].Key, "k1000491", "z", long} {
		for _, value := range []string{"", "x", big} {
			if got, e := Set(s, root, key, value); got != rootOf(t, merged(l, set(key, value))) || e != api.OK {
				t.Error(key, e)
			}
		}
		if got, e := Drop(s, root, key); got != rootOf(t, merged(l, drop(key))) || e != api.OK {
			t.Error(key, e)
		}
	}
	for _, name := range []string{root, "x"} {
		for _, key := range []string{"", long + "k"} {
			if got, e := Set(s, name, key, "x"); got != "" || e != api.ErrArg {
				t.Error(got, e)
			}
			if got, e := Drop(s, name, key); got != "" || e != api.ErrArg {
				t.Error(got, e)
			}
		}
		if got, e := Set(s, name, "a", big+"v"); got != "" || e != api.ErrArg {
			t.Error(got, e)
		}
	}
	for _, s := range append(noShelves(), without(s, root)) {
		if got, e := Set(s, root, "a", "x"); got != "" || e != api.ErrRot {
			t.Error(got, e)
		}
		if got, e := Drop(s, root, "a"); got != "" || e != api.ErrRot {
			t.Error(got, e)
		}
	}
}

func TestP22_2_Kept(t *testing.T) {
	var d dice
	s := shelf.New()
	for range 200 {
		l := entries(d.below(80))
		a, _ := tree.Build(s, l...)
		b, _ := tree.Build(s, merged(l, d.some(l, 4)...)...)
		ofA, _ := tree.Bottom(s, a)
		ofB, _ := tree.Bottom(s, b)
		want := 0
		for _, x := range ofB {
			if slices.ContainsFunc(ofA, func(y api.Twig) bool { return y.Name == x.Name }) {
				want++
			}
		}
		if n, e := Kept(s, a, b); n != want || e != api.OK {
			t.Error(n, want, e)
		}
		if n, e := Kept(s, b, a); n != want || e != api.OK {
			t.Error(n, want, e)
		}
		if n, e := Kept(s, a, a); n != len(ofA) || e != api.OK {
			t.Error(n, len(ofA), e)
		}
	}
}

func TestP22_2_KeptOfTheSecondOne(t *testing.T) {
	s := shelf.New() // a leaf may be another tree's, of another height; or stand in it twice
	x, y := leafOf(t, s, "a", "b"), leafOf(t, s, "c", "d")
	both := overOf(t, s, 1, x, y).Name
	twice := overOf(t, s, 3, overOf(t, s, 2, overOf(t, s, 1, x)), overOf(t, s, 2, overOf(t, s, 1, x, y), overOf(t, s, 1, leafOf(t, s, "e")))).Name
	none, _ := tree.Build(s)
	for _, q := range []struct {
		a, b string
		want int
	}{
		{both, x.Name, 1}, {x.Name, both, 1}, {x.Name, y.Name, 0}, {both, both, 2},
		{both, twice, 3}, {twice, both, 2}, {x.Name, twice, 2}, {twice, x.Name, 1},
		{none, none, 0}, {none, both, 0}, {both, none, 0},
	} {
		if n, e := Kept(s, q.a, q.b); n != q.want || e != api.OK {
			t.Error(q.want, n, e)
		}
	}
}

func TestP22_2_KeptsErrors(t *testing.T) {
	s, a := built(t, entries(60))
	b, _ := tree.Build(s, keyed("a")...)
	for _, gone := range s.Names() {
		left := without(s, gone)
		for _, roots := range [][2]string{{a, b}, {b, a}, {a, a}, {a, "x"}, {"x", a}, {"", ""}} {
			_, eA := tree.Bottom(left, roots[0])
			_, eB := tree.Bottom(left, roots[1])
			if n, e := Kept(left, roots[0], roots[1]); eA+eB != api.OK && (n != 0 || e != api.ErrRot) || eA+eB == api.OK && e != api.OK {
				t.Errorf("%x: %d %v", gone, n, e)
			}
		}
	}
	for _, s := range noShelves() {
		if n, e := Kept(s, a, a); n != 0 || e != api.ErrRot {
			t.Error(n, e)
		}
	}
}

func TestP22_2_Size(t *testing.T) {
	for n := range 80 {
		s, root := built(t, entries(n))
		if got := Size(s, root); got != n {
			t.Error(n, got)
		}
		for _, name := range s.Names() {
			l, _ := tree.All(s, name)
			if got := Size(s, name); got != len(l) {
				t.Errorf("%d: %x: %d %d", n, name, got, len(l))
			}
		}
	}
	s, root := built(t, entries(60))
	text, _ := s.Put("a text")
	for _, name := range []string{"", "x", text, sha.Sum("none")} {
		if got := Size(s, name); got != 0 {
			t.Error(got)
		}
	}
	for _, s := range append(noShelves(), shelf.New()) {
		if got := Size(s, root); got != 0 {
			t.Error(got)
		}
	}
	great := put(t, s, chunk.Over(3, api.Twig{Key: "a", Name: root, Count: 1 << 31}, api.Twig{Key: "b", Name: root, Count: 7}))
	if got := Size(s, great.Name); got != 1<<31+7 { // as the chunk says
		t.Error(got)
	}
}

func TestP22_3_OneMapOneRoot(t *testing.T) {
	var d dice
	s := shelf.New()
	none, _ := tree.Build(s)
	for range 60 {
		l := entries(1 + d.below(90))
		want := rootOf(t, l)
		root := none
		left := slices.Clone(l)
		for len(left) > 0 { // the entries come one by one, in any order, and others with them
			i := d.below(len(left))
			x := left[i]
			left = slices.Delete(left, i, i+1)
			var e api.Errno
			if root, e = Set(s, root, x.Key, x.Value); e != api.OK {
				t.Fatal(e)
			}
			if d.below(3) == 0 {
				root, _ = Set(s, root, x.Key+"x", "x")
				left = append(left, x)
			}
			if d.below(3) == 0 {
				root, _ = Drop(s, root, x.Key)
				left = append(left, x)
			}
		}
		for _, x := range l {
			root, _ = Drop(s, root, x.Key+"x")
		}
		if root != want {
			t.Fatal(len(l))
		}
	}
}

func TestP22_3_EditsOneBehindTheOther(t *testing.T) {
	var d dice
	s := shelf.New()
	for range 500 {
		l := entries(d.below(60))
		root, _ := tree.Build(s, l...)
		first, second := d.some(l, 12), d.some(l, 12)
		both := map[string]api.Edit{}
		for _, x := range append(slices.Clone(first), second...) {
			both[x.Key] = x
		}
		var edits []api.Edit
		for _, key := range slices.Sorted(maps.Keys(both)) {
			edits = append(edits, both[key])
		}
		once, e := Apply(s, root, edits...)
		if e != api.OK {
			t.Fatal(e)
		}
		one, _ := Apply(s, root, first...)
		two, _ := Apply(s, one, second...)
		if two != once {
			t.Fatal(len(l), first, second)
		}
		single := root
		for _, x := range append(slices.Clone(first), second...) {
			single, _ = Apply(s, single, x)
		}
		if single != once {
			t.Fatal(len(l), first, second)
		}
	}
}

func TestP22_3_NothingHandedInIsChanged(t *testing.T) {
	s, root := built(t, entries(60))
	edits := []api.Edit{set("a", "x"), drop("k100004"), set("k100009", "y"), set("z", "x"), drop("zz")}
	was := slices.Clone(edits)
	want, _ := Apply(s, root, edits[:3]...)
	if !slices.Equal(edits, was) {
		t.Error(edits)
	}
	for i := range edits {
		edits[i] = api.Edit{}
	}
	if got, e := Apply(s, root, was[:3]...); got != want || e != api.OK || !tree.Sound(s, want) {
		t.Error(e)
	}
}
