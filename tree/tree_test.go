package tree

import (
	"math"
	"slices"
	"strconv"
	"strings"
	"testing"

	"pleach/api"
	"pleach/chunk"
	"pleach/cut"
	"pleach/sha"
	"pleach/shelf"
)

const noChunk = "Lx" // a text that is none

func entry(key string) api.Entry { return api.Entry{Key: key, Value: "v" + key} }

// entries is so many entries that rise.
func entries(n int) []api.Entry {
	var l []api.Entry
	for i := range n {
		l = append(l, entry("k"+strconv.Itoa(10000000+i*i)))
	}
	return l
}

// sizes are how many entries the maps of these tests have.
func sizes() []int {
	l := []int{500, 1000, 3000}
	for n := range 100 {
		l = append(l, n)
	}
	return l
}

// planted is the tree that the words of P20.1 tell: its chunks, level by level, and the root's name.
func planted(l []api.Entry) (chunks []api.Chunk, root string) {
	if len(l) == 0 {
		return []api.Chunk{{}}, nameOf(api.Chunk{})
	}
	counts := slices.Repeat([]int{1}, len(l))
	for level := 0; ; level++ {
		var keys []string
		for _, x := range l {
			keys = append(keys, x.Key)
		}
		var above []api.Entry
		var totals []int
		begin := 0
		for _, end := range cut.Ends(level, keys...) {
			c := api.Chunk{Level: level, Entries: l[begin:end]}
			if level > 0 {
				c.Counts = counts[begin:end]
			}
			total := 0
			for _, n := range counts[begin:end] {
				total += n
			}
			chunks = append(chunks, c)
			above = append(above, api.Entry{Key: keys[end-1], Value: nameOf(c)})
			totals = append(totals, total)
			begin = end
		}
		if len(above) == 1 {
			return chunks, above[0].Value
		}
		l, counts = above, totals
	}
}

func textOf(c api.Chunk) string {
	s, e := chunk.Put(c)
	if e != api.OK {
		panic(e)
	}
	return s
}

func nameOf(c api.Chunk) string { return sha.Sum(textOf(c)) }

// built is a shelf with the tree of so many entries.
func built(t *testing.T, l []api.Entry) (*shelf.Shelf, string) {
	t.Helper()
	s := shelf.New()
	root, e := Build(s, l...)
	if e != api.OK {
		t.Fatal(e)
	}
	return s, root
}

// hand puts a chunk that is made by hand; its twig.
func hand(t *testing.T, s *shelf.Shelf, c api.Chunk) api.Twig {
	t.Helper()
	name, e := s.Put(textOf(c))
	if e != api.OK {
		t.Fatal(e)
	}
	return api.Twig{Key: c.Entries[len(c.Entries)-1].Key, Name: name, Count: total(c)}
}

func total(c api.Chunk) int {
	n := 0
	for _, count := range c.Counts {
		n += count
	}
	if c.Level == 0 {
		n = len(c.Entries)
	}
	return n
}

// leafOf is a leaf of keys, on a shelf.
func leafOf(t *testing.T, s *shelf.Shelf, keys ...string) api.Twig {
	t.Helper()
	var c api.Chunk
	for _, key := range keys {
		c.Entries = append(c.Entries, entry(key))
	}
	return hand(t, s, c)
}

// overOf is a chunk of a level over twigs, on a shelf.
func overOf(t *testing.T, s *shelf.Shelf, level int, l ...api.Twig) api.Twig {
	t.Helper()
	return hand(t, s, above(level, l...))
}

// above is a chunk of a level over twigs.
func above(level int, l ...api.Twig) api.Chunk {
	c := api.Chunk{Level: level}
	for _, t := range l {
		c.Entries = append(c.Entries, api.Entry{Key: t.Key, Value: t.Name})
		c.Counts = append(c.Counts, t.Count)
	}
	return c
}

func same(a, b api.Chunk) bool {
	return a.Level == b.Level && slices.Equal(a.Entries, b.Entries) && slices.Equal(a.Counts, b.Counts)
}

func zero(c api.Chunk) bool { return c.Level == 0 && c.Entries == nil && c.Counts == nil }

// noShelves are such as no call made.
func noShelves() []*shelf.Shelf { return []*shelf.Shelf{nil, {}} }

// mayNotBe are entries that may not be a map's, by their errors.
func mayNotBe() map[api.Errno][][]api.Entry {
	long, value := strings.Repeat("k", 65), strings.Repeat("v", 2049)
	return map[api.Errno][][]api.Entry{
		api.ErrArg: {
			{{Key: ""}},
			{{Key: long}},
			{{Key: "a", Value: value}},
			{{Key: "a"}, {Key: ""}},
			{{Key: "b"}, {Key: "a", Value: value}}, // both errors in one
			{{Key: "a"}, {Key: "b"}, {Key: long}, {Key: "a"}},
		},
		api.ErrOrder: {
			{{Key: "a"}, {Key: "a"}},
			{{Key: "b"}, {Key: "a"}},
			{{Key: "a"}, {Key: "ab"}, {Key: "aa"}},
			{{Key: "\xff"}, {Key: "a"}},
			{{Key: "b"}, {Key: "a"}, {Key: ""}},
			{{Key: "b"}, {Key: "a"}, {Key: "c", Value: value}},
			append(entries(50), entry("k10000000")),
		},
	}
}

func TestP20_1_Check(t *testing.T) {
	long := strings.Repeat("k", 64)
	for i, l := range [][]api.Entry{
		nil,
		{{Key: "a"}},
		{{Key: "\x00"}, {Key: "\x00\x00"}, {Key: "a"}, {Key: "aa"}, {Key: "b"}, {Key: "\xff"}},
		{{Key: long[1:]}, {Key: long}},
		{{Key: "a", Value: strings.Repeat("v", 2048)}},
		entries(2000),
	} {
		if e := Check(l...); e != api.OK {
			t.Error(i, e)
		}
	}
	for want, rows := range mayNotBe() {
		for i, l := range rows {
			if e := Check(l...); e != want {
				t.Error(i, e, want)
			}
		}
	}
}

func TestP20_1_TheTreeOfAMap(t *testing.T) {
	for _, n := range sizes() {
		l := entries(n)
		s, root := built(t, l)
		chunks, want := planted(l)
		if root != want {
			t.Errorf("%d entries: %x, want %x", n, root, want)
		}
		var texts []string
		for _, c := range chunks {
			texts = append(texts, textOf(c))
		}
		if !slices.Equal(s.Texts(0), texts) {
			t.Errorf("%d entries: %d chunks, want %d", n, s.Len(), len(texts))
		}
		if !slices.Equal(l, entries(n)) {
			t.Error(n, "the entries have changed")
		}
	}
}

func TestP20_1_TheEmptyMap(t *testing.T) {
	s, root := built(t, nil)
	if root != sha.Sum("L\x00") || !slices.Equal(s.Texts(0), []string{"L\x00"}) {
		t.Errorf("%x %q", root, s.Texts(0))
	}
}

func TestP20_1_TheRootOfTwoLeaves(t *testing.T) {
	leaves := []string{"L\x02\x01a\x00\x01c\x00", "L\x01\x01d\x00"}
	want := "I\x01\x02" + "\x01c" + sha.Sum(leaves[0]) + "\x02" + "\x01d" + sha.Sum(leaves[1]) + "\x01"
	s, root := built(t, []api.Entry{{Key: "a"}, {Key: "c"}, {Key: "d"}})
	if root != sha.Sum(want) || !slices.Equal(s.Texts(0), append(leaves, want)) {
		t.Errorf("%x %q", root, s.Texts(0))
	}
	if s, root = built(t, []api.Entry{{Key: "a"}, {Key: "c"}}); root != sha.Sum(leaves[0]) { // which is cut at its end
		t.Errorf("%x %q", root, s.Texts(0))
	}
}

func TestP20_2_Put(t *testing.T) {
	s := shelf.New()
	leaf := api.Chunk{Entries: []api.Entry{entry("a"), entry("b")}}
	twig, e := Put(s, leaf)
	if want := (api.Twig{Key: "b", Name: nameOf(leaf), Count: 2}); twig != want || e != api.OK || !slices.Equal(s.Texts(0), []string{textOf(leaf)}) {
		t.Error(twig, e)
	}
	over := above(3, twig, api.Twig{Key: "c", Name: sha.Sum(""), Count: 7})
	if got, e := Put(s, over); got != (api.Twig{Key: "c", Name: nameOf(over), Count: 9}) || e != api.OK {
		t.Error(got, e)
	}
	if got, e := Put(s, leaf); got != twig || e != api.OK || s.Len() != 2 { // again
		t.Error(got, e, s.Len())
	}
	if got, e := Put(s, api.Chunk{}); got != (api.Twig{Name: sha.Sum("L\x00")}) || e != api.OK {
		t.Error(got, e)
	}
	was := s.Texts(0)
	for c, want := range map[*api.Chunk]api.Errno{
		{Level: 1}:  api.ErrArg,
		{Level: 41}: api.ErrArg,
		{Entries: []api.Entry{{Key: "b"}, {Key: "a"}}}: api.ErrOrder,
	} {
		for _, s := range append(noShelves(), s) { // the chunk's error is the first one
			if got, e := Put(s, *c); got != (api.Twig{}) || e != want {
				t.Error(got, e, want)
			}
		}
	}
	if !slices.Equal(s.Texts(0), was) {
		t.Error("something was put")
	}
	for _, s := range noShelves() {
		if got, e := Put(s, leaf); got != (api.Twig{}) || e != api.ErrNil {
			t.Error(got, e)
		}
	}
}

func TestP20_2_Leaves(t *testing.T) {
	for _, n := range sizes() {
		l := entries(n)
		s := shelf.New()
		got, e := Leaves(s, l...)
		var want []api.Twig
		var texts []string
		chunks, _ := planted(l)
		for _, c := range chunks {
			if c.Level == 0 && len(c.Entries) > 0 {
				want = append(want, api.Twig{Key: c.Entries[len(c.Entries)-1].Key, Name: nameOf(c), Count: len(c.Entries)})
				texts = append(texts, textOf(c))
			}
		}
		if !slices.Equal(got, want) || e != api.OK || !slices.Equal(s.Texts(0), texts) {
			t.Error(n, len(got), e, len(want))
		}
	}
}

func TestP20_2_LeavesAndBuildOfWhatMayNotBe(t *testing.T) {
	for want, rows := range mayNotBe() {
		for i, l := range rows {
			s := shelf.New()
			for _, s := range append(noShelves(), s) {
				if got, e := Leaves(s, l...); got != nil || e != want {
					t.Error(i, got, e, want)
				}
				if got, e := Build(s, l...); got != "" || e != want {
					t.Error(i, got, e, want)
				}
			}
			if s.Len() != 0 {
				t.Error(i, s.Len())
			}
		}
	}
}

func TestP20_2_NoShelf(t *testing.T) {
	for _, s := range noShelves() {
		if got, e := Leaves(s, entries(9)...); got != nil || e != api.ErrNil {
			t.Error(got, e)
		}
		if got, e := Leaves(s); got != nil || e != api.OK { // nothing is put
			t.Error(got, e)
		}
		if got, e := Raise(s); got != "" || e != api.ErrNil {
			t.Error(got, e)
		}
		if got, e := Raise(s, api.Twig{Key: "a", Name: sha.Sum("a"), Count: 1}, api.Twig{Key: "b", Name: sha.Sum("b"), Count: 1}); got != "" || e != api.ErrNil {
			t.Error(got, e)
		}
		for _, n := range []int{0, 1, 100} {
			if got, e := Build(s, entries(n)...); got != "" || e != api.ErrNil {
				t.Error(n, got, e)
			}
		}
	}
}

func TestP20_2_Raise(t *testing.T) {
	for _, n := range sizes() {
		l := entries(n)
		s, below := shelf.New(), shelf.New()
		twigs, _ := Leaves(below, l...)
		was := slices.Clone(twigs)
		got, e := Raise(s, twigs...)
		chunks, want := planted(l)
		var texts []string // those above the leaves are put, alone
		for _, c := range chunks {
			if c.Level > 0 || n == 0 {
				texts = append(texts, textOf(c))
			}
		}
		if got != want || e != api.OK || !slices.Equal(s.Texts(0), texts) || !slices.Equal(twigs, was) {
			t.Error(n, e, s.Len(), len(texts))
		}
	}
}

func TestP20_2_RaiseOfTwigsMadeByHand(t *testing.T) {
	s := shelf.New()
	for _, name := range []string{"", "x", sha.Sum("x")} { // the one that is left is the root
		if got, e := Raise(s, api.Twig{Key: "", Name: name, Count: -1}); got != name || e != api.OK || s.Len() != 0 {
			t.Error(got, e)
		}
	}
	good := func(key string) api.Twig { return api.Twig{Key: key, Name: sha.Sum(key), Count: 1} }
	for i, c := range []struct {
		l    []api.Twig
		want api.Errno
	}{
		{[]api.Twig{good("a"), {Key: "b", Name: "x", Count: 1}}, api.ErrArg},
		{[]api.Twig{good("a"), {Key: "b", Name: sha.Sum("b")}}, api.ErrArg},
		{[]api.Twig{good("a"), {Key: "b", Name: sha.Sum("b"), Count: 1<<31 + 1}}, api.ErrArg},
		{[]api.Twig{good("a"), {Name: sha.Sum("b"), Count: 1}}, api.ErrArg},
		{[]api.Twig{good("a"), good(strings.Repeat("k", 65))}, api.ErrArg},
		{[]api.Twig{good("a"), good("a")}, api.ErrOrder},
		{[]api.Twig{good("b"), good("a")}, api.ErrOrder},
		{[]api.Twig{good("b"), good("a"), good("")}, firstError(good("b"), good("a"), good(""))},
	} {
		if got, e := Raise(s, c.l...); got != "" || e != c.want {
			t.Error(i, got, e, c.want)
		}
	}
}

// firstError is that of the first chunk of twigs that may not be.
func firstError(l ...api.Twig) api.Errno {
	var keys []string
	for _, t := range l {
		keys = append(keys, t.Key)
	}
	begin := 0
	for _, end := range cut.Ends(1, keys...) {
		if e := chunk.Check(above(1, l[begin:end]...)); e != api.OK {
			return e
		}
		begin = end
	}
	return api.OK
}

func TestP20_2_WhatWasPutAheadOfAnErrorIsThere(t *testing.T) {
	var l []api.Twig
	var keys []string
	for _, x := range entries(200) {
		keys = append(keys, x.Key)
		l = append(l, api.Twig{Key: x.Key, Name: sha.Sum(x.Key), Count: 1})
	}
	ends := cut.Ends(1, keys...)
	l[ends[4]].Name = "x"
	s := shelf.New()
	if got, e := Raise(s, l...); got != "" || e != api.ErrArg || s.Len() != 5 {
		t.Error(got, e, s.Len())
	}
	l[ends[4]].Name = sha.Sum("x")
	for i := range l { // all chunks of the first level may be, none of the second one's
		l[i].Count = 1 << 31
	}
	s = shelf.New()
	if got, e := Raise(s, l...); got != "" || e != api.ErrArg || s.Len() != len(ends) {
		t.Error(got, e, s.Len(), len(ends))
	}
}

func TestP20_3_Load(t *testing.T) {
	s, _ := built(t, entries(300))
	chunks, _ := planted(entries(300))
	for i, want := range chunks {
		if c, e := Load(s, nameOf(want)); !same(c, want) || e != api.OK {
			t.Error(i, c, e)
		}
	}
	none, _ := s.Put(noChunk)
	for _, name := range []string{"", "x", none, sha.Sum("none"), textOf(api.Chunk{}), nameOf(chunks[0])[1:]} {
		for _, s := range append(noShelves(), s) {
			if c, e := Load(s, name); !zero(c) || e != api.ErrRot {
				t.Error(name, c, e)
			}
		}
	}
	if c, e := Load(nil, nameOf(chunks[0])); !zero(c) || e != api.ErrRot {
		t.Error(c, e)
	}
}

func TestP20_3_Child(t *testing.T) {
	s := shelf.New()
	a, b, d := leafOf(t, s, "a"), leafOf(t, s, "b", "c"), leafOf(t, s, "d")
	p, q := overOf(t, s, 1, a, b), overOf(t, s, 1, d)
	for i, c := range []struct {
		c    api.Chunk
		i    int
		want api.Twig
	}{
		{above(1, a, b), 0, a},
		{above(1, a, b), 1, b},
		{above(1, b), 0, b},
		{above(2, p, q), 0, p},
		{above(2, p, q), 1, q},
	} {
		was, _ := Load(s, c.want.Name)
		if got, e := Child(s, c.c, c.i); !same(got, was) || e != api.OK {
			t.Error(i, got, e)
		}
	}
}

func TestP20_3_ChildOfNoEntry(t *testing.T) {
	s := shelf.New()
	a, b := leafOf(t, s, "a"), leafOf(t, s, "b")
	leaf, _ := Load(s, a.Name)
	fewer := above(1, a, b)
	fewer.Counts = fewer.Counts[:1]
	more := above(1, a)
	more.Counts = append(more.Counts, 1)
	below := above(-1, a, b)
	at0 := above(0, a, b)
	for i, c := range []struct {
		c api.Chunk
		i int
	}{
		{leaf, 0}, {api.Chunk{}, 0}, {api.Chunk{Level: 1}, 0}, {below, 0}, {at0, 0}, {at0, 1},
		{above(1, a, b), -1}, {above(1, a, b), 2}, {above(1, a, b), math.MinInt}, {above(1, a, b), math.MaxInt},
		{fewer, 1}, {more, 1}, {above(math.MinInt, a, b), 0},
	} {
		for _, s := range append(noShelves(), s) {
			if got, e := Child(s, c.c, c.i); !zero(got) || e != api.ErrRange {
				t.Error(i, got, e)
			}
		}
	}
	if got, e := Child(s, fewer, 0); !same(got, leaf) || e != api.OK {
		t.Error(got, e)
	}
}

func TestP20_3_ChildThatIsAnother(t *testing.T) {
	s := shelf.New()
	a, b, bc, ab := leafOf(t, s, "a"), leafOf(t, s, "b"), leafOf(t, s, "b", "c"), leafOf(t, s, "a", "b")
	empty, _ := s.Put("L\x00")
	none, _ := s.Put(noChunk)
	up := overOf(t, s, 1, b)
	as := func(x api.Twig, key string, count int) api.Twig {
		return api.Twig{Key: key, Name: x.Name, Count: count}
	}
	for what, c := range map[string]api.Chunk{
		"not there":           above(1, a, as(api.Twig{Name: sha.Sum("none")}, "b", 1)),
		"no name":             above(1, a, as(api.Twig{Name: "x"}, "b", 1)),
		"no chunk":            above(1, a, as(api.Twig{Name: none}, "b", 1)),
		"no entry":            above(1, a, as(api.Twig{Name: empty}, "", 0)),
		"a level above":       above(1, a, up),
		"two levels below":    above(2, a, b),
		"another last key":    above(1, a, as(bc, "d", 2)),
		"a piece of it":       above(1, a, as(bc, "bc", 2)),
		"a count less":        above(1, a, as(bc, "c", 1)),
		"a count more":        above(1, a, as(bc, "c", 3)),
		"the same first key":  above(1, a, ab),
		"a lesser first key":  above(1, as(a, "aa", 1), ab),
		"a huge level":        above(math.MaxInt, a, b),
		"the levels' end":     above(42, a, b),
		"all that of a child": above(1, b, b),
	} {
		if got, e := Child(s, c, 1); !zero(got) || e != api.ErrRot {
			t.Error(what, got, e)
		}
	}
	for _, s := range noShelves() {
		if got, e := Child(s, above(1, a, b), 1); !zero(got) || e != api.ErrRot {
			t.Error(got, e)
		}
	}
	if got, e := Child(s, above(1, as(a, "aa", 1), as(bc, "c", 2)), 1); len(got.Entries) != 2 || e != api.OK { // the one ahead is not looked at
		t.Error(got, e)
	}
}

func TestP20_3_Get(t *testing.T) {
	for _, n := range sizes() {
		s, root := built(t, entries(n))
		has := map[string]string{}
		asked := []string{"", "\x00", "a", "k", "z", "\xff", strings.Repeat("k", 100)}
		for _, x := range entries(n) {
			has[x.Key] = x.Value
			asked = append(asked, x.Key, x.Key+"\x00", x.Key+"x", x.Key[:len(x.Key)-1])
		}
		for _, key := range asked {
			want, is := has[key]
			if got, ok, e := Get(s, root, key); got != want || ok != is || e != api.OK {
				t.Error(n, key, got, ok, e)
			}
		}
	}
}

func TestP20_3_GetOfAnEmptyValue(t *testing.T) {
	s, root := built(t, []api.Entry{{Key: "a"}, {Key: "b", Value: "x"}})
	if v, ok, e := Get(s, root, "a"); v != "" || !ok || e != api.OK {
		t.Error(v, ok, e)
	}
}

func TestP20_3_Count(t *testing.T) {
	for _, n := range sizes() {
		s, root := built(t, entries(n))
		if got, e := Count(s, root); got != n || e != api.OK {
			t.Error(n, got, e)
		}
		alone := s.Only(func(name string) bool { return name == root }) // it looks at the root alone
		if got, e := Count(alone, root); got != n || e != api.OK {
			t.Error(n, got, e)
		}
	}
}
