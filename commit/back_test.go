package commit

import (
	"maps"
	"slices"
	"testing"

	"pleach/api"
	"pleach/dag"
	"pleach/hand"
	"pleach/quad"
	"pleach/sample"
	"pleach/shelf"
)

// past is a shelf with commits of these numbers' parents, in order, and their names. A parent is told by its place.
func past(t *testing.T, nums []int, parents ...[]int) (*shelf.Shelf, []string) {
	t.Helper()
	s := shelf.New()
	var names []string
	for i, num := range nums {
		c := api.Commit{Num: num, Graph: sum("g"), Note: string(rune('a' + i))}
		for _, at := range parents[i] {
			c.Parents = append(c.Parents, names[at])
		}
		name, e := Store(s, c)
		if e != api.OK {
			t.Fatal(i, e)
		}
		names = append(names, name)
	}
	return s, names
}

// isBack tells whether Back is these commits, by their places.
func isBack(t *testing.T, s *shelf.Shelf, names []string, from, want []int) {
	t.Helper()
	var asked []string
	for _, at := range from {
		asked = append(asked, names[at])
	}
	got, commits, e := Back(s, asked...)
	if e != api.OK || len(got) != len(want) || len(commits) != len(want) {
		t.Fatal(from, len(got), len(commits), e)
	}
	for i, at := range want {
		if c, _ := Load(s, names[at]); got[i] != names[at] || !same(commits[i], c) {
			t.Error(from, i, slices.Index(names, got[i]), at)
		}
	}
}

// lattice is 1; 2 and 3 of it; 4 of 2 and 3, 5 of 3 and 2; 6 of 4; 7 alone; 8 of 6 and 5.
func lattice(t *testing.T) (*shelf.Shelf, []string) {
	t.Helper()
	return past(t, []int{1, 2, 3, 4, 5, 6, 7, 8}, nil, []int{0}, []int{0}, []int{1, 2}, []int{2, 1}, []int{3}, nil, []int{5, 4})
}

func TestP35_3_BackIsInTheOrderInWhichTheyAreMet(t *testing.T) {
	s, names := lattice(t)
	for _, c := range []struct{ from, want []int }{
		{nil, nil},
		{[]int{0}, []int{0}},
		{[]int{1}, []int{1, 0}},
		{[]int{3}, []int{3, 1, 2, 0}},
		{[]int{4}, []int{4, 2, 1, 0}},
		{[]int{7}, []int{7, 5, 4, 3, 2, 1, 0}},
		{[]int{0, 3}, []int{0, 3, 1, 2}}, // all that are asked for first
		{[]int{3, 4}, []int{3, 4, 1, 2, 0}},
		{[]int{4, 3}, []int{4, 3, 2, 1, 0}},
		{[]int{6, 1}, []int{6, 1, 0}},
		{[]int{1, 6, 1, 1, 6}, []int{1, 6, 0}}, // each once
		{[]int{5, 3, 2}, []int{5, 3, 2, 1, 0}},
		{[]int{0, 1, 2, 3, 4, 5, 6, 7}, []int{0, 1, 2, 3, 4, 5, 6, 7}},
	} {
		isBack(t, s, names, c.from, c.want)
	}
}

// What is not looked at may be missing; of what is, nothing.
func TestP35_3_BackOfUnknownOnes(t *testing.T) {
	s, names := lattice(t)
	graph, _ := quad.Write(s, api.Graph{})
	reached := func(from ...string) []string {
		l, _, _ := Back(s, from...)
		return l
	}
	for _, from := range [][]string{names, names[:1], names[3:4], names[7:], {names[6], names[4]}} {
		l := reached(from...)
		for _, gone := range s.Names() {
			got, commits, e := Back(hand.Without(s, gone), from...)
			if slices.Contains(l, gone) {
				if got != nil || commits != nil || e != api.ErrUnknown {
					t.Error(len(got), len(commits), e)
				}
			} else if !slices.Equal(got, l) || len(commits) != len(l) || e != api.OK {
				t.Error(len(got), len(commits), e)
			}
			if k, l, e := Knots(hand.Without(s, gone), from...); (e == api.OK) != (got != nil) || (k == nil) != (e != api.OK) || (l == nil) != (e != api.OK) {
				t.Error(len(k), len(l), e)
			}
		}
	}
	for _, none := range []string{"", graph, sum("x")} {
		if l, commits, e := Back(s, names[0], none); l != nil || commits != nil || e != api.ErrUnknown {
			t.Error(l, commits, e)
		}
		if k, l, e := Knots(s, none, names[0]); k != nil || l != nil || e != api.ErrUnknown {
			t.Error(k, l, e)
		}
	}
	for _, s := range hand.NoShelves() {
		if l, commits, e := Back(s, names[0]); l != nil || commits != nil || e != api.ErrUnknown {
			t.Error(l, commits, e)
		}
		if l, commits, e := Back(s); l != nil || commits != nil || e != api.OK {
			t.Error(l, commits, e)
		}
		if k, l, e := Knots(s); k != nil || l != nil || e != api.OK {
			t.Error(k, l, e)
		}
	}
}

func TestP35_3_ParentsWhoseNumIsNotLess(t *testing.T) {
	for _, c := range []struct {
		nums    []int
		parents [][]int
		e       api.Errno
	}{
		{[]int{1, 2}, [][]int{nil, {0}}, api.OK},
		{[]int{1, api.MaxNum}, [][]int{nil, {0}}, api.OK},
		{[]int{2, 2}, [][]int{nil, {0}}, api.ErrRot},
		{[]int{2, 1}, [][]int{nil, {0}}, api.ErrRot},
		{[]int{1, 3, 2}, [][]int{nil, nil, {0, 1}}, api.ErrRot}, // of the second parent
		{[]int{3, 1, 2}, [][]int{nil, nil, {0, 1}}, api.ErrRot},
		{[]int{1, 2, 3}, [][]int{nil, nil, {0, 1}}, api.OK},
		{[]int{5, 4, 6}, [][]int{nil, {0}, {1}}, api.ErrRot}, // further back
		{[]int{5, 6, 4}, [][]int{nil, {0}, {0}}, api.ErrRot}, // of one that was met ahead
	} {
		s, names := past(t, c.nums, c.parents...)
		for range 2 {
			l, commits, e := Back(s, names...)
			if e != c.e || e == api.OK && len(l) != len(names) || e != api.OK && (l != nil || commits != nil) {
				t.Error(c.nums, len(l), len(commits), e)
			}
			k, l, e := Knots(s, names...)
			if e != c.e || e != api.OK && (k != nil || l != nil) {
				t.Error(c.nums, len(k), len(l), e)
			}
			slices.Reverse(names)
		}
	}
}

// Of both errors that which the document names first, wherever they are.
func TestP35_3_UnknownIsAheadOfRot(t *testing.T) {
	s, names := past(t, []int{1, 5, 4, 6}, nil, []int{0}, []int{1}, []int{2})
	for _, l := range [][]string{names[3:], names[2:], {names[3], sum("x")}, {sum("x"), names[3]}} {
		want := api.ErrRot
		if slices.Contains(l, sum("x")) {
			want = api.ErrUnknown
		}
		if _, _, e := Back(s, l...); e != want {
			t.Error(e)
		}
		if _, _, e := Back(hand.Without(s, names[0]), l...); e != api.ErrUnknown {
			t.Error(e)
		}
	}
}

func TestP35_3_Knots(t *testing.T) {
	s, names := lattice(t)
	for _, c := range []struct{ from, want []int }{
		{nil, nil}, {[]int{0}, []int{0}}, {[]int{4}, []int{0, 1, 2, 4}}, {[]int{7}, []int{0, 1, 2, 3, 4, 5, 7}}, {[]int{6, 1}, []int{0, 1, 6}}, {[]int{1, 6, 1}, []int{0, 1, 6}},
		{[]int{7, 6, 5, 4, 3, 2, 1, 0}, []int{0, 1, 2, 3, 4, 5, 6, 7}},
	} {
		var asked []string
		for _, at := range c.from {
			asked = append(asked, names[at])
		}
		k, l, e := Knots(s, asked...)
		if e != api.OK || len(k) != len(c.want) || len(l) != len(c.want) {
			t.Fatal(c.from, k, e)
		}
		parents := [][]int{nil, {1}, {1}, {2, 3}, {3, 2}, {4}, nil, {6, 5}}
		for i, at := range c.want {
			if k[i].Num != at+1 || !slices.Equal(k[i].Parents, parents[at]) || l[i] != names[at] {
				t.Error(c.from, i, k[i])
			}
		}
	}
}

func TestP35_3_KnotsOfOneNum(t *testing.T) {
	for _, c := range []struct {
		nums    []int
		parents [][]int
	}{
		{[]int{1, 1}, [][]int{nil, nil}},
		{[]int{1, 2, 2}, [][]int{nil, {0}, {0}}},
		{[]int{1, 2, 2, 3}, [][]int{nil, {0}, {0}, {1, 2}}},
		{[]int{1, 4, 2, 4, 3}, [][]int{nil, nil, nil, nil, nil}},
	} {
		s, names := past(t, c.nums, c.parents...)
		if l, _, e := Back(s, names...); len(l) != len(names) || e != api.OK { // which is none of its errors
			t.Error(c.nums, len(l), e)
		}
		if k, l, e := Knots(s, names...); k != nil || l != nil || e != api.ErrRot {
			t.Error(c.nums, k, l, e)
		}
		if k, l, e := Knots(s, names[0]); len(k) != 1 || len(l) != 1 || e != api.OK {
			t.Error(c.nums, k, l, e)
		}
	}
}

// Any past: what is answered is what a walk by the words alone meets.
func TestP35_3_AnyPast(t *testing.T) {
	var d sample.Dice
	for range 200 {
		n := 1 + d.Below(20)
		var nums []int
		var parents [][]int
		num := 0
		for i := range n {
			num += 1 + d.Below(3)
			nums = append(nums, num)
			met := map[int]bool{}
			for range d.Below(3) {
				if i > 0 {
					met[d.Below(i)] = true
				}
			}
			parents = append(parents, slices.Sorted(maps.Keys(met)))
		}
		s, names := past(t, nums, parents...)
		var from, want []int
		for range d.Below(4) {
			from = append(from, d.Below(n))
		}
		meet := func(at int) {
			if !slices.Contains(want, at) {
				want = append(want, at)
			}
		}
		for _, at := range from {
			meet(at)
		}
		for i := 0; i < len(want); i++ {
			for _, at := range parents[want[i]] {
				meet(at)
			}
		}
		isBack(t, s, names, from, want)
		var asked []string
		for _, at := range from {
			asked = append(asked, names[at])
		}
		k, l, e := Knots(s, asked...)
		slices.Sort(want)
		if e != api.OK || dag.Check(k...) != api.OK || len(k) != len(want) {
			t.Fatal(k, want, e)
		}
		for i, at := range want {
			if k[i].Num != nums[at] || l[i] != names[at] || len(k[i].Parents) != len(parents[at]) {
				t.Fatal(k[i], nums[at])
			}
			for j, parent := range parents[at] {
				if k[i].Parents[j] != nums[parent] {
					t.Fatal(k[i], parents[at])
				}
			}
		}
	}
}

// A past that is long, and one that is wide.
func TestP35_3_GreatPasts(t *testing.T) {
	s := shelf.New()
	c := api.Commit{Num: 1, Graph: sum("g")}
	var name string
	for i := range 3000 {
		name, _ = Store(s, c)
		c = api.Commit{Num: i + 2, Parents: []string{name}, Graph: sum("g")}
		if i > 0 {
			c.Parents = append(c.Parents, mustLoad(t, s, name).Parents[0])
		}
	}
	if l, commits, e := Back(s, name); len(l) != 3000 || commits[2999].Num != 1 || e != api.OK {
		t.Error(len(l), e)
	}
	if k, l, e := Knots(s, s.Names()...); len(k) != 3000 || l[2999] != name || e != api.OK {
		t.Error(len(k), e)
	}
}

func mustLoad(t *testing.T, s *shelf.Shelf, name string) api.Commit {
	t.Helper()
	c, e := Load(s, name)
	if e != api.OK {
		t.Fatal(e)
	}
	return c
}

func TestP35_3_Memory(t *testing.T) {
	s, names := lattice(t)
	asked := sample.Room([]string{names[7], names[6]}, "other")
	was := sample.All(asked)
	texts := s.Texts(0)
	l, commits, _ := Back(s, asked...)
	k, sorted, _ := Knots(s, asked...)
	if !slices.Equal(sample.All(asked), was) || !slices.Equal(s.Texts(0), texts) {
		t.Error(asked)
	}
	for i := range commits { // no two lists are one
		sample.Spoil(commits[i].Parents)
		for _, c := range commits[i+1:] {
			if slices.Contains(c.Parents, "") {
				t.Error(i, c)
			}
		}
	}
	sample.Spoil(l)
	for i := range k {
		sample.Spoil(k[i].Parents)
		for _, other := range k[i+1:] {
			if slices.Contains(other.Parents, 0) {
				t.Error(i, other)
			}
		}
	}
	sample.Spoil(sorted)
	if !slices.Equal(sample.All(asked), was) || !slices.Equal(s.Texts(0), texts) {
		t.Error(asked)
	}
	isBack(t, s, names, []int{7, 6}, []int{7, 6, 5, 4, 3, 2, 1, 0})
}
