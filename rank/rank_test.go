package rank

import (
	"math"
	"slices"
	"strconv"
	"strings"
	"testing"

	"pleach/api"
	"pleach/chunk"
	"pleach/sha"
	"pleach/shelf"
	"pleach/tree"
)

// entries is so many entries that rise.
func entries(n int) []api.Entry {
	var l []api.Entry
	for i := range n {
		l = append(l, api.Entry{Key: "k" + strconv.Itoa(100000+i*i), Value: strconv.Itoa(i)})
	}
	return l
}

// keyed is the entries of keys.
func keyed(keys ...string) []api.Entry {
	var l []api.Entry
	for _, key := range keys {
		l = append(l, api.Entry{Key: key, Value: "v" + key})
	}
	return l
}

// built is a shelf with the tree of entries.
func built(t *testing.T, l []api.Entry) (*shelf.Shelf, string) {
	t.Helper()
	s := shelf.New()
	root, e := tree.Build(s, l...)
	if e != api.OK {
		t.Fatal(e)
	}
	return s, root
}

// without is a shelf of all but one object.
func without(s *shelf.Shelf, name string) *shelf.Shelf {
	return s.Only(func(n string) bool { return n != name })
}

// noShelves are those that no call made.
func noShelves() []*shelf.Shelf { return []*shelf.Shelf{nil, {}} }

// sizes are how many entries the maps of these tests have.
func sizes() []int {
	l := []int{99, 200, 700}
	for n := range 40 {
		l = append(l, n)
	}
	return l
}

// asked are the keys of entries, and such as stand between, ahead of and behind them.
func asked(l []api.Entry) []string {
	keys := []string{"", "\x00", "a", "k", "k1", "z", "\xff", strings.Repeat("k", 100)}
	for _, x := range l {
		keys = append(keys, x.Key, x.Key+"\x00", x.Key+"z", x.Key[:len(x.Key)-1])
	}
	return keys
}

// ahead is how many entries have keys less than key, one by one.
func ahead(l []api.Entry, key string) int {
	n := 0
	for _, x := range l {
		if x.Key < key {
			n++
		}
	}
	return n
}

// begins is with which keys the parts begin, by the words alone.
func begins(l []api.Entry, parts int) []string {
	var keys []string
	at := 0
	for i := range parts {
		if i > 0 && at < len(l) {
			keys = append(keys, l[at].Key)
		}
		at += len(l) / parts
		if i < len(l)%parts {
			at++
		}
	}
	return keys
}

// ranked tells that all calls tell of a tree what they must.
func ranked(t *testing.T, s *shelf.Shelf, root string) {
	t.Helper()
	l, e := tree.All(s, root)
	if e != api.OK {
		t.Fatal(e)
	}
	for _, key := range asked(l) {
		if n, e := Of(s, root, key); n != ahead(l, key) || e != api.OK {
			t.Fatal(len(l), key, n, e)
		}
	}
	for i, want := range l {
		if x, e := At(s, root, i); x != want || e != api.OK {
			t.Fatal(len(l), i, x, e)
		}
	}
	for _, i := range []int{math.MinInt, -1, len(l), len(l) + 1, math.MaxInt} {
		if x, e := At(s, root, i); x != (api.Entry{}) || e != api.ErrRange {
			t.Fatal(len(l), i, x, e)
		}
	}
	for parts := 1; parts <= 64; parts++ {
		if got, e := Parts(s, root, parts); !slices.Equal(got, begins(l, parts)) || e != api.OK {
			t.Fatal(len(l), parts, got, e)
		}
	}
}

func TestP24_1_OfAtAndParts(t *testing.T) {
	for _, n := range sizes() {
		s, root := built(t, entries(n))
		was := s.Len()
		ranked(t, s, root)
		if s.Len() != was {
			t.Error(n)
		}
	}
}

func TestP24_1_OfAFewKeys(t *testing.T) {
	s, root := built(t, keyed("a", "b", "c"))
	for key, want := range map[string]int{"": 0, "a": 0, "a\x00": 1, "b": 1, "bb": 2, "c": 2, "c\x00": 3, "\xff": 3} {
		if n, e := Of(s, root, key); n != want || e != api.OK {
			t.Error(key, n, e)
		}
	}
	for parts, want := range map[int][]string{1: nil, 2: {"c"}, 3: {"b", "c"}, 4: {"b", "c"}, 64: {"b", "c"}} {
		if l, e := Parts(s, root, parts); !slices.Equal(l, want) || e != api.OK {
			t.Error(parts, l, e)
		}
	}
}

func TestP24_1_Between(t *testing.T) {
	for _, n := range []int{0, 1, 2, 9, 20, 61} {
		l := entries(n)
		s, root := built(t, l)
		for _, from := range asked(l) {
			for _, to := range asked(l) {
				want := 0
				for _, x := range l {
					if x.Key >= from && (to == "" || x.Key < to) {
						want++
					}
				}
				if got, e := Between(s, root, from, to); got != want || e != api.OK {
					t.Fatal(n, from, to, got, e)
				}
			}
		}
	}
}

func TestP24_1_PartsThatMayNotBe(t *testing.T) {
	s, root := built(t, entries(100))
	for _, parts := range []int{math.MinInt, -64, -1, 0, 65, 100, math.MaxInt} {
		for _, name := range []string{root, "", "x"} { // ahead of what is wrong with the tree
			for _, s := range append(noShelves(), s) {
				if l, e := Parts(s, name, parts); l != nil || e != api.ErrArg {
					t.Error(parts, l, e)
				}
			}
		}
	}
}

func TestP24_1_PartsAreEven(t *testing.T) {
	for _, n := range sizes() {
		l := entries(n)
		s, root := built(t, l)
		for parts := 1; parts <= 64; parts++ {
			keys, e := Parts(s, root, parts)
			if e != api.OK || len(keys) != max(0, min(parts, n)-1) {
				t.Fatal(n, parts, keys, e)
			}
			begin := 0
			for i, key := range append(keys, "") { // each has as many as the next one, or one more
				end, _ := Of(s, root, key)
				if key == "" {
					end = n
				}
				want := n / parts
				if i < n%parts {
					want++
				}
				if end-begin != want {
					t.Fatal(n, parts, i, end-begin, want)
				}
				begin = end
			}
		}
	}
}

func TestP24_1_NoRoot(t *testing.T) {
	s, root := built(t, entries(60))
	notOne, _ := s.Put("Lx")
	fails := func(s *shelf.Shelf, root string) {
		t.Helper()
		for _, i := range []int{0, 7, -1, 99, math.MaxInt} { // ahead of ErrRange
			if x, e := At(s, root, i); x != (api.Entry{}) || e != api.ErrRot {
				t.Error(i, x, e)
			}
		}
		for _, key := range []string{"", "k", "z"} {
			if n, e := Of(s, root, key); n != 0 || e != api.ErrRot {
				t.Error(key, n, e)
			}
			for _, to := range []string{"", "a", "z"} {
				if n, e := Between(s, root, key, to); n != 0 || e != api.ErrRot {
					t.Error(key, to, n, e)
				}
			}
		}
		for _, parts := range []int{1, 2, 64} {
			if l, e := Parts(s, root, parts); l != nil || e != api.ErrRot {
				t.Error(parts, l, e)
			}
		}
	}
	for _, name := range []string{"", "x", notOne, sha.Sum("none"), root[:31]} {
		for _, s := range append(noShelves(), s) {
			fails(s, name)
		}
	}
	fails(without(s, root), root)
	fails(nil, root)
}

// way is the names of the chunks that lead to the entry with i others ahead, but the root's.
func way(s *shelf.Shelf, root string, i int) []string {
	var l []string
	c, _ := tree.Load(s, root)
	for c.Level > 0 {
		at := 0
		for i >= c.Counts[at] {
			i -= c.Counts[at]
			at++
		}
		l = append(l, c.Entries[at].Value)
		c, _ = tree.Load(s, c.Entries[at].Value)
	}
	return l
}

func TestP24_1_WhereAChunkIsNotThere(t *testing.T) {
	l := entries(120)
	s, root := built(t, l)
	for _, gone := range s.Names() {
		if gone == root {
			continue
		}
		left := without(s, gone)
		rots := func(i int) bool { return slices.Contains(way(s, root, i), gone) }
		for i, x := range l {
			wantN, wantX, want := i, x, api.OK
			if rots(i) { // else it is not come to
				wantN, wantX, want = 0, api.Entry{}, api.ErrRot
			}
			if n, e := Of(left, root, x.Key); n != wantN || e != want {
				t.Errorf("%x: %d: %d %v", gone, i, n, e)
			}
			if got, e := At(left, root, i); got != wantX || e != want {
				t.Errorf("%x: %d: %v %v", gone, i, got, e)
			}
			n, e := Between(left, root, x.Key, "")
			if e != want || e == api.OK && n != len(l)-i || e != api.OK && n != 0 {
				t.Errorf("%x: %d: %v %v", gone, i, n, e)
			}
			n, e = Between(left, root, l[7].Key, x.Key)
			if rots(7) {
				want = api.ErrRot
			}
			if e != want || e == api.OK && n != max(0, i-7) || e != api.OK && n != 0 {
				t.Errorf("%x: %d: %v %v", gone, i, n, e)
			}
		}
		for _, i := range []int{-1, len(l)} {
			if x, e := At(left, root, i); x != (api.Entry{}) || e != api.ErrRange {
				t.Errorf("%x: %d: %v %v", gone, i, x, e)
			}
		}
		if keys, e := Parts(left, root, 3); rots(40) || rots(80) {
			if keys != nil || e != api.ErrRot {
				t.Errorf("%x: %v %v", gone, keys, e)
			}
		} else if !slices.Equal(keys, []string{l[40].Key, l[80].Key}) || e != api.OK {
			t.Errorf("%x: %v %v", gone, keys, e)
		}
	}
}

// put puts a chunk that is made by hand; its twig.
func put(t *testing.T, s *shelf.Shelf, c api.Chunk) api.Twig {
	t.Helper()
	twig, e := tree.Put(s, c)
	if e != api.OK {
		t.Fatal(e)
	}
	return twig
}

func leafOf(t *testing.T, s *shelf.Shelf, keys ...string) api.Twig {
	t.Helper()
	return put(t, s, api.Chunk{Entries: keyed(keys...)})
}

func overOf(t *testing.T, s *shelf.Shelf, level int, l ...api.Twig) api.Twig {
	t.Helper()
	return put(t, s, chunk.Over(level, l...))
}

func TestP24_1_AChunkThatIsAnother(t *testing.T) {
	s := shelf.New()
	a, b, ab := leafOf(t, s, "a"), leafOf(t, s, "b"), leafOf(t, s, "a", "b")
	for what, second := range map[string]api.Twig{
		"its first key": ab,
		"its last key":  {Key: "c", Name: b.Name, Count: 1},
		"its count":     {Key: "b", Name: b.Name, Count: 2},
		"its level":     overOf(t, s, 1, b),
	} {
		root := overOf(t, s, 1, a, second).Name
		if n, e := Of(s, root, "a"); n != 0 || e != api.OK {
			t.Error(what, n, e)
		}
		if n, e := Of(s, root, "aa"); n != 0 || e != api.ErrRot {
			t.Error(what, n, e)
		}
		if x, e := At(s, root, 0); x.Key != "a" || e != api.OK {
			t.Error(what, x, e)
		}
		if x, e := At(s, root, second.Count); x != (api.Entry{}) || e != api.ErrRot {
			t.Error(what, x, e)
		}
		if n, e := Between(s, root, "", "aa"); n != 0 || e != api.ErrRot {
			t.Error(what, n, e)
		}
		if l, e := Parts(s, root, 2); what != "its first key" && (l != nil || e != api.ErrRot) {
			t.Error(what, l, e)
		}
	}
}

func TestP24_1_OddTrees(t *testing.T) {
	s := shelf.New() // they are as they must be, but they are not the trees of their entries
	high := overOf(t, s, 1, leafOf(t, s, "b", "d"), leafOf(t, s, "e"), leafOf(t, s, "f", "g", "h", "i"))
	for level := 2; level <= api.MaxLevel; level++ {
		high = overOf(t, s, level, high)
	}
	ranked(t, s, high.Name)
	letters := strings.Split("abcdefgh", "")
	var single []api.Twig
	for _, key := range letters {
		single = append(single, leafOf(t, s, key))
	}
	ranked(t, s, leafOf(t, s, letters...).Name)
	ranked(t, s, overOf(t, s, 1, single[0]).Name)
	ranked(t, s, overOf(t, s, 1, single...).Name)
	ranked(t, s, overOf(t, s, 2, overOf(t, s, 1, single[0]), overOf(t, s, 1, single[1:]...)).Name)
}

// thicket is a chunk of a level, of a few chunks that stand in very many places, whose last key is the one with that number.
func thicket(t *testing.T, s *shelf.Shelf, met map[[2]int]api.Twig, level, number int) api.Twig {
	at := [2]int{level, number}
	if twig, ok := met[at]; ok {
		return twig
	}
	var twig api.Twig
	if level == 0 {
		twig = leafOf(t, s, "k"+strconv.Itoa(1000+number))
	} else {
		var l []api.Twig // of each but the first one the first chunk has one child alone, whose keys are held against none
		for i := range 8 {
			l = append(l, overOf(t, s, level-1, thicket(t, s, met, level-2, number-7+i)))
		}
		twig = overOf(t, s, level, l...)
	}
	met[at] = twig
	return twig
}

// inThicket is the key of the entry of a thicket with i others ahead: its way down is i to the base 8.
func inThicket(level, number, i int) string {
	for ; level > 0; level -= 2 {
		number -= 7 - i%8
		i /= 8
	}
	return "k" + strconv.Itoa(1000+number)
}

func TestP24_1_GreatCounts(t *testing.T) {
	s := shelf.New()
	root := thicket(t, s, map[[2]int]api.Twig{}, 22, 100).Name
	n := 1 << 33
	for _, i := range []int{0, 1, 7, 8, 1<<30 - 1, 1 << 30, 1<<31 - 1, 1 << 31, 1<<32 + 12345, n - 9, n - 1} {
		if x, e := At(s, root, i); x.Key != inThicket(22, 100, i) || e != api.OK {
			t.Error(i, x, e)
		}
	}
	for _, i := range []int{-1, n, math.MaxInt} {
		if x, e := At(s, root, i); x != (api.Entry{}) || e != api.ErrRange {
			t.Error(i, x, e)
		}
	}
	for _, parts := range []int{1, 2, 63, 64} {
		l, e := Parts(s, root, parts)
		if len(l) != parts-1 || e != api.OK {
			t.Error(parts, len(l), e)
		}
		for i, key := range l {
			if at := (i+1)*(n/parts) + min(i+1, n%parts); key != inThicket(22, 100, at) {
				t.Error(parts, i, key)
			}
		}
	}
	if got, e := Of(s, root, "z"); got != n || e != api.OK {
		t.Error(got, e)
	}
	if got, e := Between(s, root, "", ""); got != n || e != api.OK {
		t.Error(got, e)
	}
}

func TestP24_2_AtOfOf(t *testing.T) {
	for _, n := range sizes() {
		l := entries(n)
		s, root := built(t, l)
		for _, x := range l {
			i, e := Of(s, root, x.Key)
			got, e2 := At(s, root, i)
			if got != x || e != api.OK || e2 != api.OK {
				t.Fatal(n, x.Key, i, got, e, e2)
			}
		}
	}
}

func TestP24_2_ListsAreApart(t *testing.T) {
	l := entries(60)
	s, root := built(t, l)
	for range 2 {
		keys, e := Parts(s, root, 7)
		if !slices.Equal(keys, begins(l, 7)) || e != api.OK {
			t.Error(keys, e)
		}
		for i := range keys[:cap(keys)] {
			keys[:cap(keys)][i] = ""
		}
	}
}
