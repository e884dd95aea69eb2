package cursor

import (
	"math"
	"slices"
	"strconv"
	"strings"
	"testing"

	"pleach/api"
	"pleach/chunk"
	"pleach/sha"
	"pleach/shelf"
	"pleach/tree"
)

// entries is so many entries that rise.
func entries(n int) []api.Entry {
	var l []api.Entry
	for i := range n {
		l = append(l, api.Entry{Key: "k" + strconv.Itoa(100000+i*i), Value: strconv.Itoa(i)})
	}
	return l
}

// keyed is the entries of keys.
func keyed(keys ...string) []api.Entry {
	var l []api.Entry
	for _, key := range keys {
		l = append(l, api.Entry{Key: key, Value: "v" + key})
	}
	return l
}

// built is a shelf with the tree of entries.
func built(t *testing.T, l []api.Entry) (*shelf.Shelf, string) {
	t.Helper()
	s := shelf.New()
	root, e := tree.Build(s, l...)
	if e != api.OK {
		t.Fatal(e)
	}
	return s, root
}

// leaves is the leaves of a tree.
func leaves(t *testing.T, s *shelf.Shelf, root string) []api.Twig {
	t.Helper()
	l, e := tree.Bottom(s, root)
	if e != api.OK {
		t.Fatal(e)
	}
	return l
}

// without is a shelf of all but one object.
func without(s *shelf.Shelf, name string) *shelf.Shelf {
	return s.Only(func(n string) bool { return n != name })
}

// rest is what a cursor goes through from where it is.
func rest(c *Cursor) []api.Entry {
	var l []api.Entry
	for ; !c.Done(); c.Next() {
		l = append(l, c.Entry())
	}
	return l
}

// atEnd tells whether a cursor is at the end, and stays there, with an error.
func atEnd(t *testing.T, c *Cursor, want api.Errno) {
	t.Helper()
	for range 3 {
		if !c.Done() || c.Err() != want || c.Entry() != (api.Entry{}) {
			t.Error(c.Done(), c.Err(), c.Entry(), want)
		}
		c.Next()
	}
}

// from is those entries whose keys are not less.
func from(l []api.Entry, key string) []api.Entry {
	return slices.DeleteFunc(slices.Clone(l), func(x api.Entry) bool { return x.Key < key })
}

// asked are the keys of entries, and such as stand between, ahead of and behind them.
func asked(l []api.Entry) []string {
	keys := []string{"", "\x00", "a", "k", "k1", "z", "\xff", strings.Repeat("k", 100)}
	for _, x := range l {
		keys = append(keys, x.Key, x.Key+"\x00", x.Key+"z", x.Key[:len(x.Key)-1])
	}
	return keys
}

func TestP21_1_Seek(t *testing.T) {
	for _, n := range []int{0, 1, 2, 3, 8, 9, 20, 61, 200} {
		l := entries(n)
		s, root := built(t, l)
		for _, key := range asked(l) {
			c := Seek(s, root, key)
			want := from(l, key)
			if len(want) == 0 {
				atEnd(t, c, api.OK)
				continue
			}
			if c.Done() || c.Err() != api.OK || c.Entry() != want[0] || c.Entry() != want[0] {
				t.Error(n, key, c.Done(), c.Err(), c.Entry())
			}
		}
	}
}

func TestP21_1_Next(t *testing.T) {
	for _, n := range []int{0, 1, 2, 9, 20, 61} {
		l := entries(n)
		s, root := built(t, l)
		for _, key := range asked(l) {
			c := Seek(s, root, key)
			for _, want := range from(l, key) {
				if c.Done() || c.Err() != api.OK || c.Entry() != want {
					t.Error(n, key, c.Done(), c.Err(), c.Entry(), want)
				}
				c.Next()
			}
			atEnd(t, c, api.OK)
		}
	}
}

func TestP21_1_NoCursor(t *testing.T) {
	for _, c := range []*Cursor{nil, {}} {
		atEnd(t, c, api.ErrNil)
	}
}

func TestP21_1_NoRoot(t *testing.T) {
	s, root := built(t, entries(60))
	none, _ := s.Put("Lx")
	for _, name := range []string{"", "x", none, sha.Sum("none")} {
		for _, key := range []string{"", "k", "z"} {
			atEnd(t, Seek(s, name, key), api.ErrRot)
		}
	}
	for _, s := range []*shelf.Shelf{nil, {}, shelf.New()} {
		atEnd(t, Seek(s, root, ""), api.ErrRot)
	}
}

func TestP21_1_WhereALeafIsNotThere(t *testing.T) {
	l := entries(60)
	s, root := built(t, l)
	ahead := 0
	for _, gone := range leaves(t, s, root) {
		left := without(s, gone.Name)
		c := Seek(left, root, "")
		if got := rest(c); !slices.Equal(got, l[:ahead]) {
			t.Error(ahead, got)
		}
		atEnd(t, c, api.ErrRot)
		for i, x := range l {
			c := Seek(left, root, x.Key)
			switch {
			case i < ahead:
				if got := rest(c); !slices.Equal(got, l[i:ahead]) {
					t.Error(ahead, i, got)
				}
				atEnd(t, c, api.ErrRot)
			case i < ahead+gone.Count:
				atEnd(t, c, api.ErrRot)
			default: // what is ahead is not looked at
				if got := rest(c); !slices.Equal(got, l[i:]) {
					t.Error(ahead, i, got)
				}
				atEnd(t, c, api.OK)
			}
		}
		ahead += gone.Count
	}
}

func TestP21_1_WhereAChunkAboveIsNotThere(t *testing.T) {
	l := entries(200)
	s, root := built(t, l)
	for _, name := range s.Names() {
		c, e := tree.Load(s, name)
		if e != api.OK || c.Level == 0 || name == root {
			continue
		}
		first, _ := tree.All(s, name)
		ahead := len(l) - len(from(l, first[0].Key))
		at := Seek(without(s, name), root, "")
		if got := rest(at); !slices.Equal(got, l[:ahead]) {
			t.Errorf("%x: %d, want %d", name, len(got), ahead)
		}
		atEnd(t, at, api.ErrRot)
		atEnd(t, Seek(without(s, name), root, first[0].Key), api.ErrRot)
	}
}

// put puts a chunk that is made by hand; its twig.
func put(t *testing.T, s *shelf.Shelf, c api.Chunk) api.Twig {
	t.Helper()
	twig, e := tree.Put(s, c)
	if e != api.OK {
		t.Fatal(e)
	}
	return twig
}

// leaf is a leaf of keys.
func leaf(t *testing.T, s *shelf.Shelf, keys ...string) api.Twig {
	t.Helper()
	return put(t, s, api.Chunk{Entries: keyed(keys...)})
}

func TestP21_1_AChunkThatIsAnother(t *testing.T) {
	s := shelf.New()
	a, b, ab := leaf(t, s, "a"), leaf(t, s, "b"), leaf(t, s, "a", "b")
	for what, second := range map[string]api.Twig{
		"its first key": ab,
		"its last key":  {Key: "c", Name: b.Name, Count: 1},
		"its count":     {Key: "b", Name: b.Name, Count: 2},
		"its level":     put(t, s, chunk.Over(1, b)),
	} {
		root := put(t, s, chunk.Over(1, a, second)).Name
		c := Seek(s, root, "")
		if got := rest(c); !slices.Equal(got, keyed("a")) {
			t.Error(what, got)
		}
		atEnd(t, c, api.ErrRot)
		atEnd(t, Seek(s, root, "aa"), api.ErrRot)
		if l, e := Range(s, root, "", "", 9); l != nil || e != api.ErrRot {
			t.Error(what, l, e)
		}
	}
}

func TestP21_1_TheShelfMayLoseWhatIsBehind(t *testing.T) {
	l := entries(60)
	s, root := built(t, l)
	first := leaves(t, s, root)[0].Count
	c := Seek(s, root, "")
	s.Cut(0)
	if got := rest(c); !slices.Equal(got, l[:first]) { // a chunk is looked at when it is come to
		t.Error(len(got), first)
	}
	atEnd(t, c, api.ErrRot)
}

func TestP21_1_CursorsAreApart(t *testing.T) {
	l := entries(200)
	s, root := built(t, l)
	a, b := Seek(s, root, ""), Seek(s, root, "")
	a.Next()
	copied := *a
	if got := rest(a); !slices.Equal(got, l[1:]) {
		t.Error(len(got))
	}
	if got := rest(b); !slices.Equal(got, l) {
		t.Error(len(got))
	}
	if got := rest(&copied); !slices.Equal(got, l[1:]) {
		t.Error(len(got))
	}
}

func TestP21_2_Range(t *testing.T) {
	abc, top := built(t, keyed("a", "b", "c"))
	if got, e := Range(abc, top, "b", "", 9); !slices.Equal(got, keyed("b", "c")) || e != api.OK {
		t.Error(got, e)
	}
	for _, n := range []int{0, 1, 2, 9, 20} {
		l := entries(n)
		s, root := built(t, l)
		for _, begin := range asked(l) {
			for _, to := range asked(l) {
				for _, most := range []int{math.MinInt, -1, 0, 1, 2, 7, n, n + 1, math.MaxInt} {
					want := from(l, begin)
					if to != "" {
						want = want[:max(0, len(want)-len(from(want, to)))]
					}
					want = want[:min(len(want), max(most, 0))]
					if got, e := Range(s, root, begin, to, most); !slices.Equal(got, want) || e != api.OK {
						t.Error(n, begin, to, most, got, e)
					}
				}
			}
		}
	}
}

func TestP21_2_RangeOfManyLeaves(t *testing.T) {
	l := entries(300)
	s, root := built(t, l)
	for _, begin := range []int{0, 1, 50, 299} {
		for _, end := range []int{0, 1, 51, 200, 299} {
			want := l[begin:max(begin, end)]
			if got, e := Range(s, root, l[begin].Key, l[end].Key, 999); !slices.Equal(got, want) || e != api.OK {
				t.Error(begin, end, len(got), e)
			}
		}
	}
}

func TestP21_2_RangeWhereALeafIsNotThere(t *testing.T) {
	l := entries(60)
	s, root := built(t, l)
	ahead := 0
	for i, gone := range leaves(t, s, root) {
		left := without(s, gone.Name)
		if i > 0 {
			for most := range ahead + 3 { // the way goes on from each that is told, the last one too
				want, wantE := l[:min(most, ahead)], api.OK
				if most >= ahead {
					want, wantE = nil, api.ErrRot
				}
				if got, e := Range(left, root, "", "", most); !slices.Equal(got, want) || e != wantE {
					t.Error(i, most, got, e)
				}
			}
			if got, e := Range(left, root, "", l[ahead-1].Key, 99); !slices.Equal(got, l[:ahead-1]) || e != api.OK {
				t.Error(i, got, e)
			}
			if got, e := Range(left, root, "", l[ahead].Key, 99); got != nil || e != api.ErrRot {
				t.Error(i, got, e)
			}
		}
		for _, most := range []int{-1, 0, 1} { // it begins by Seek, whatever is told
			if got, e := Range(left, root, l[ahead].Key, "", most); got != nil || e != api.ErrRot {
				t.Error(i, most, got, e)
			}
		}
		if got, e := Range(left, root, l[ahead].Key, "a", 9); got != nil || e != api.ErrRot {
			t.Error(i, got, e)
		}
		ahead += gone.Count
	}
}

func TestP21_2_Prefix(t *testing.T) {
	for _, n := range []int{0, 1, 2, 9, 61, 200} {
		l := entries(n)
		s, root := built(t, l)
		for _, begin := range append(asked(l), "k10", "k100", "k1000", "k11", "k12", "k13", "k2", "j", "l") {
			want := slices.DeleteFunc(slices.Clone(l), func(x api.Entry) bool { return !strings.HasPrefix(x.Key, begin) })
			if got, e := Prefix(s, root, begin); !slices.Equal(got, want) || e != api.OK {
				t.Error(n, begin, len(got), e, len(want))
			}
		}
	}
	s, root := built(t, keyed("a", "a\x00", "a\xff", "a\xff\xff", "b", "\xff", "\xff\xff", "\xff\xff\xff"))
	for begin, want := range map[string][]api.Entry{
		"a":            keyed("a", "a\x00", "a\xff", "a\xff\xff"),
		"a\xff":        keyed("a\xff", "a\xff\xff"),
		"\xff":         keyed("\xff", "\xff\xff", "\xff\xff\xff"),
		"\xff\xff":     keyed("\xff\xff", "\xff\xff\xff"),
		"\xff\xff\xff": keyed("\xff\xff\xff"),
		"aa":           nil,
	} {
		if got, e := Prefix(s, root, begin); !slices.Equal(got, want) || e != api.OK {
			t.Errorf("%q: %v %v", begin, got, e)
		}
	}
}

func TestP21_2_PrefixWhereALeafIsNotThere(t *testing.T) {
	l := entries(60)
	s, root := built(t, l)
	ahead := 0
	for i, gone := range leaves(t, s, root) {
		left := without(s, gone.Name)
		if got, e := Prefix(left, root, "k"); got != nil || e != api.ErrRot {
			t.Error(i, got, e)
		}
		if got, e := Prefix(left, root, l[ahead].Key); got != nil || e != api.ErrRot {
			t.Error(i, got, e)
		}
		if i > 0 { // the last one that is told stands at the leaf's end
			if got, e := Prefix(left, root, l[ahead-1].Key); got != nil || e != api.ErrRot {
				t.Error(i, got, e)
			}
		}
		ahead += gone.Count
	}
	for _, name := range []string{"", "x"} {
		if got, e := Prefix(s, name, ""); got != nil || e != api.ErrRot {
			t.Error(got, e)
		}
		if got, e := Range(nil, name, "", "", 9); got != nil || e != api.ErrRot {
			t.Error(got, e)
		}
	}
}

func TestP21_2_KeysThatDoNotRise(t *testing.T) {
	s := shelf.New() // no chunk tells of this tree that it is odd
	one := put(t, s, chunk.Over(1, leaf(t, s, "a"), leaf(t, s, "m")))
	two := put(t, s, chunk.Over(1, leaf(t, s, "a", "c", "p"), leaf(t, s, "q")))
	root := put(t, s, chunk.Over(2, one, two)).Name
	if got := rest(Seek(s, root, "d")); !slices.Equal(got, keyed("m", "a", "c", "p", "q")) {
		t.Error(got)
	}
	for _, to := range []string{"", "n", "z"} { // nothing is told that is less than the first key
		if got, e := Range(s, root, "d", to, 9); !slices.Equal(got, keyed("m")) || e != api.OK {
			t.Error(to, got, e)
		}
	}
	if got, e := Range(s, root, "", "", 9); !slices.Equal(got, keyed("a", "m", "a", "c", "p", "q")) || e != api.OK {
		t.Error(got, e)
	}
}

func TestP21_3_AllEntriesOnce(t *testing.T) {
	for n := range 300 {
		l := entries(n)
		s, root := built(t, l)
		for _, key := range []string{"", "k"} {
			c := Seek(s, root, key)
			if got := rest(c); !slices.Equal(got, l) {
				t.Error(n, len(got))
			}
			atEnd(t, c, api.OK)
		}
		if n > 0 {
			if got := rest(Seek(s, root, l[0].Key)); !slices.Equal(got, l) {
				t.Error(n, len(got))
			}
		}
		if got, e := Range(s, root, "", "", math.MaxInt); !slices.Equal(got, l) || e != api.OK {
			t.Error(n, len(got), e)
		}
		if got, e := Prefix(s, root, ""); !slices.Equal(got, l) || e != api.OK {
			t.Error(n, len(got), e)
		}
	}
}

func TestP21_3_TheUppermostLevel(t *testing.T) {
	s := shelf.New()
	twig := leaf(t, s, "a", "b")
	for level := 1; level <= api.MaxLevel; level++ {
		twig = put(t, s, chunk.Over(level, twig))
	}
	c := Seek(s, twig.Name, "")
	if got := rest(c); !slices.Equal(got, keyed("a", "b")) {
		t.Error(got)
	}
	atEnd(t, c, api.OK)
	atEnd(t, Seek(s, twig.Name, "c"), api.OK)
}

func TestP21_3_ListsAreApart(t *testing.T) {
	s, root := built(t, entries(60))
	l, _ := Range(s, root, "", "", 99)
	for i := range l[:cap(l)] {
		l[:cap(l)][i] = api.Entry{}
	}
	if got, e := Prefix(s, root, ""); !slices.Equal(got, entries(60)) || e != api.OK {
		t.Error(got, e)
	}
}
