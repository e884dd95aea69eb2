package dag

import (
	"maps"
	"math"
	"reflect"
	"slices"
	"testing"

	"pleach/api"
	"pleach/sample"
)

// knot is a knot of a number, and its parents.
func knot(num int, parents ...int) api.Knot { return api.Knot{Num: num, Parents: parents} }

// lattice is 1; 2 and 3 of it; 4 of 2 and 3, 5 of 3 and 2; 6 alone; 9 of 6 and 4.
func lattice() []api.Knot {
	return []api.Knot{knot(1), knot(2, 1), knot(3, 1), knot(4, 2, 3), knot(5, 3, 2), knot(6), knot(9, 6, 4)}
}

func is(t *testing.T, what any, got, want []int, e, wantE api.Errno) {
	t.Helper()
	if !slices.Equal(got, want) || e != wantE || (got == nil) != (len(want) == 0) {
		t.Error(what, got, e, "want", want, wantE)
	}
}

// right are rows of knots that may be.
func right() [][]api.Knot {
	return [][]api.Knot{
		nil, {}, {knot(1)}, {knot(7)}, {knot(math.MaxInt)}, {knot(1), knot(math.MaxInt, 1)},
		{knot(1), knot(2)}, {knot(3), knot(5, 3)}, {knot(3), knot(4), knot(9, 4, 3)}, {knot(3), knot(4), knot(9, 3, 4), knot(10, 9, 3)},
		{{Num: 1, Parents: []int{}}}, lattice(),
	}
}

// wrong are rows of knots that may not be.
func wrong() [][]api.Knot {
	return [][]api.Knot{
		{knot(0)}, {knot(-1)}, {knot(math.MinInt)}, {knot(-1), knot(1)}, {knot(0), knot(1, 0)},
		{knot(1), knot(1)}, {knot(2), knot(1)}, {knot(1), knot(3), knot(2)}, {knot(1), knot(2), knot(2)}, {knot(5), knot(0)},
		{knot(1, 1)}, {knot(2, 1)}, {knot(1, 2), knot(2)}, {knot(1), knot(2, 2)}, {knot(1), knot(2, 3), knot(3)},
		{knot(1), knot(2, 0)}, {knot(1), knot(3, 2)}, {knot(1), knot(2, -1)}, {knot(1), knot(2, 1, 0)}, {knot(1), knot(2, 0, 1)}, {knot(1), knot(2, math.MaxInt)},
		{knot(1), knot(2, 1, 1)}, {knot(1), knot(2), knot(3), knot(4, 1, 2, 3)}, {knot(1), knot(2), knot(4, 1, 2, 1)}, {knot(1), knot(2), knot(3, 2, 2), knot(4)},
		{knot(1), knot(2, 1), knot(3), knot(4, 2, 5), knot(5)},
		{{Num: 2, Parents: make([]int, 5000)}},
	}
}

func TestP36_1_Check(t *testing.T) {
	for _, l := range right() {
		if e := Check(l...); e != api.OK {
			t.Error(l, e)
		}
	}
	for _, l := range wrong() {
		if e := Check(l...); e != api.ErrForm {
			t.Error(l, e)
		}
	}
}

func TestP36_2_Back(t *testing.T) {
	l := lattice()
	for n, want := range map[int][]int{1: {1}, 2: {2, 1}, 3: {3, 1}, 4: {4, 3, 2, 1}, 5: {5, 3, 2, 1}, 6: {6}, 9: {9, 6, 4, 3, 2, 1}} {
		got, e := Back(l, n)
		is(t, n, got, want, e, api.OK)
	}
}

func TestP36_2_Common(t *testing.T) {
	l := lattice()
	for _, c := range []struct {
		a, b int
		want []int
	}{
		{1, 1, []int{1}}, {4, 4, []int{4, 3, 2, 1}}, {2, 3, []int{1}}, {4, 5, []int{3, 2, 1}}, {4, 3, []int{3, 1}}, {9, 4, []int{4, 3, 2, 1}}, {9, 6, []int{6}}, {4, 6, nil}, {6, 6, []int{6}}, {9, 5, []int{3, 2, 1}},
	} {
		got, e := Common(l, c.a, c.b)
		is(t, c, got, c.want, e, api.OK)
	}
}

func TestP36_2_Best(t *testing.T) {
	l := lattice()
	for _, c := range []struct {
		a, b int
		want []int
		base int
	}{
		{1, 1, []int{1}, 1}, {4, 4, []int{4}, 4}, {2, 3, []int{1}, 1}, {4, 5, []int{2, 3}, 2}, {4, 3, []int{3}, 3}, {9, 4, []int{4}, 4}, {9, 6, []int{6}, 6}, {4, 6, nil, 0}, {9, 5, []int{2, 3}, 2}, {1, 9, []int{1}, 1},
	} {
		got, e := Best(l, c.a, c.b)
		is(t, c, got, c.want, e, api.OK)
		wantE := api.OK
		if c.want == nil {
			wantE = api.ErrNone
		}
		if n, e := Base(l, c.a, c.b); n != c.base || e != wantE {
			t.Error(c, n, e)
		}
	}
}

// One that both come of by a long way, though it is the later one of two that they meet.
func TestP36_2_WhatABestOneComesOfIsNone(t *testing.T) {
	l := []api.Knot{knot(1), knot(2, 1), knot(3, 2), knot(4, 3), knot(5, 4), knot(6, 5, 1), knot(7, 5, 2), knot(8, 6, 1), knot(9, 7, 1)}
	got, e := Best(l, 8, 9)
	is(t, "5", got, []int{5}, e, api.OK)
	got, e = Best(append(l, knot(10, 8, 9), knot(11, 9, 8)), 10, 11)
	is(t, "8 and 9", got, []int{8, 9}, e, api.OK)
}

func TestP36_2_Of(t *testing.T) {
	l := lattice()
	for _, k := range l {
		back, _ := Back(l, k.Num)
		for _, of := range l {
			if is, e := Of(l, k.Num, of.Num); is != slices.Contains(back, of.Num) || e != api.OK {
				t.Error(k.Num, of.Num, is, e)
			}
		}
	}
	if is, _ := Of(l, 4, 2); !is {
		t.Error("4 comes of 2")
	}
	if is, _ := Of(l, 2, 4); is {
		t.Error("2 does not come of 4")
	}
}

func TestP36_2_Tips(t *testing.T) {
	for _, c := range []struct {
		l    []api.Knot
		want []int
	}{
		{nil, nil}, {[]api.Knot{knot(3)}, []int{3}}, {lattice(), []int{5, 9}}, {lattice()[:5], []int{4, 5}}, {lattice()[:3], []int{2, 3}}, {lattice()[:6], []int{4, 5, 6}},
	} {
		got, e := Tips(c.l)
		is(t, c.l, got, c.want, e, api.OK)
	}
}

// each asks all calls for two knots.
func each(t *testing.T, l []api.Knot, a, b int, ofOne, ofTwo api.Errno) {
	t.Helper()
	got, e := Back(l, a)
	if (got != nil) != (e == api.OK) || e != ofOne {
		t.Error("Back", a, got, e)
	}
	for range 2 {
		got, e = Common(l, a, b)
		if e != ofTwo || got != nil && e != api.OK {
			t.Error("Common", a, b, got, e)
		}
		got, e = Best(l, a, b)
		if e != ofTwo || got != nil && e != api.OK {
			t.Error("Best", a, b, got, e)
		}
		if n, e := Base(l, a, b); ofTwo != api.OK && (n != 0 || e != ofTwo) {
			t.Error("Base", a, b, n, e)
		}
		if is, e := Of(l, a, b); e != ofTwo || is && e != api.OK {
			t.Error("Of", a, b, is, e)
		}
		a, b = b, a
	}
}

func TestP36_2_NoSuchKnot(t *testing.T) {
	for _, l := range right() {
		for _, none := range []int{0, -1, 8, 2000, math.MinInt, math.MaxInt - 1} {
			each(t, l, none, none, api.ErrNone, api.ErrNone)
			for _, k := range l {
				each(t, l, none, k.Num, api.ErrNone, api.ErrNone)
				each(t, l, k.Num, none, api.OK, api.ErrNone)
			}
		}
		for _, k := range l {
			each(t, l, k.Num, k.Num, api.OK, api.OK)
		}
	}
}

func TestP36_2_ChecksErrorIsAhead(t *testing.T) {
	for _, l := range wrong() {
		for _, n := range []int{1, 2, 77, -1, l[0].Num} {
			each(t, l, n, 1, api.ErrForm, api.ErrForm)
		}
		if got, e := Tips(l); got != nil || e != api.ErrForm {
			t.Error(l, got, e)
		}
	}
}

// past is any past of so many knots.
func past(d *sample.Dice, n int) []api.Knot {
	var l []api.Knot
	num := 0
	for range n {
		num += 1 + d.Below(3)
		k := knot(num)
		met := map[int]bool{}
		for range d.Below(3) {
			if len(l) > 0 {
				met[l[max(0, len(l)-1-d.Below(6))].Num] = true
			}
		}
		k.Parents = slices.Sorted(maps.Keys(met))
		if d.Below(2) == 0 {
			slices.Reverse(k.Parents)
		}
		l = append(l, k)
	}
	return l
}

// origins is of each knot all that it comes of, by the words alone.
func origins(l []api.Knot) map[int]map[int]bool {
	all := map[int]map[int]bool{}
	for _, k := range l {
		all[k.Num] = map[int]bool{k.Num: true}
		for _, p := range k.Parents {
			maps.Copy(all[k.Num], all[p])
		}
	}
	return all
}

// shared is what both come of, falling, and which of these are best, rising.
func shared(all map[int]map[int]bool, a, b int) (common, best []int) {
	for n := range all[a] {
		if all[b][n] {
			common = append(common, n)
		}
	}
	slices.Sort(common)
	for _, n := range common {
		if !slices.ContainsFunc(common, func(other int) bool { return other != n && all[other][n] }) {
			best = append(best, n)
		}
	}
	slices.Reverse(common)
	return common, best
}

func TestP36_2_AnyPast(t *testing.T) {
	var d sample.Dice
	several := 0
	for range 150 {
		l := past(&d, 1+d.Below(25))
		of := origins(l)
		var tips []int
		for _, k := range l {
			want := slices.Sorted(maps.Keys(of[k.Num]))
			slices.Reverse(want)
			got, e := Back(l, k.Num)
			is(t, k, got, want, e, api.OK)
			if !slices.ContainsFunc(l, func(other api.Knot) bool { return other.Num != k.Num && of[other.Num][k.Num] }) {
				tips = append(tips, k.Num)
			}
			for _, other := range l {
				common, best := shared(of, k.Num, other.Num)
				got, e := Common(l, k.Num, other.Num)
				is(t, l, got, common, e, api.OK)
				got, e = Best(l, k.Num, other.Num)
				is(t, l, got, best, e, api.OK)
				n, e := Base(l, k.Num, other.Num)
				if len(best) == 0 && (n != 0 || e != api.ErrNone) || len(best) > 0 && (n != best[0] || e != api.OK) {
					t.Fatal(l, k.Num, other.Num, n, e)
				}
				if is, e := Of(l, k.Num, other.Num); is != of[k.Num][other.Num] || e != api.OK {
					t.Fatal(l, k.Num, other.Num, is, e)
				}
				if len(best) > 1 {
					several++
				}
			}
		}
		got, e := Tips(l)
		is(t, l, got, tips, e, api.OK)
	}
	if several < 100 {
		t.Error("seldom several best ones:", several)
	}
}

func TestP36_3_WhichIsAPlaysNoPart(t *testing.T) {
	var d sample.Dice
	for range 100 {
		l := past(&d, 30)
		a, b := l[d.Below(30)].Num, l[d.Below(30)].Num
		one, _ := Common(l, a, b)
		two, _ := Common(l, b, a)
		is(t, l, one, two, api.OK, api.OK)
		one, _ = Best(l, a, b)
		two, _ = Best(l, b, a)
		is(t, l, one, two, api.OK, api.OK)
		n, e := Base(l, a, b)
		if m, f := Base(l, b, a); n != m || e != f {
			t.Error(l, a, b, n, m)
		}
	}
}

func TestP36_3_WhereOneComesOfTheOther(t *testing.T) {
	var d sample.Dice
	for range 100 {
		l := past(&d, 30)
		n := l[d.Below(30)].Num
		back, _ := Back(l, n)
		for _, of := range back {
			got, e := Best(l, n, of)
			is(t, l, got, []int{of}, e, api.OK)
			got, e = Best(l, of, n)
			is(t, l, got, []int{of}, e, api.OK)
		}
	}
}

// A past in which there are very many ways back.
func TestP36_2_GreatPasts(t *testing.T) {
	const n = 50000
	l := []api.Knot{knot(1), knot(2, 1)}
	for i := 3; i <= n; i++ {
		l = append(l, knot(i, i-2, i-1))
	}
	if got, e := Back(l, n); len(got) != n || got[0] != n || got[n-1] != 1 || e != api.OK {
		t.Error(len(got), e)
	}
	got, e := Best(l, n, n-1)
	is(t, n, got, []int{n - 1}, e, api.OK)
	if got, e := Common(l, n-1, n); len(got) != n-1 || e != api.OK {
		t.Error(len(got), e)
	}
	got, e = Tips(l)
	is(t, n, got, []int{n}, e, api.OK)
}

// roomy is the lattice, with room behind each list's end; all is a copy of all that there is of it.
func roomy() []api.Knot {
	l := lattice()
	for i := range l {
		l[i].Parents = sample.Room(l[i].Parents, 77)
	}
	return sample.Room(l, knot(77))
}

func all(l []api.Knot) []api.Knot {
	l = sample.All(l)
	for i := range l {
		l[i].Parents = sample.All(l[i].Parents)
	}
	return l
}

func TestP36_2_Memory(t *testing.T) {
	l := roomy()
	was := all(l)
	for range 2 {
		Check(l...)
		back, _ := Back(l, 9)
		common, _ := Common(l, 4, 5)
		best, _ := Best(l, 4, 5)
		tips, _ := Tips(l)
		for _, x := range [][]int{back, common, best, tips} {
			sample.Spoil(x)
		}
		Of(l, 9, 1)
		if !reflect.DeepEqual(all(l), was) {
			t.Error(l)
		}
	}
	got, _ := Back(l, 4)
	is(t, "again", got, []int{4, 3, 2, 1}, api.OK, api.OK)
}
