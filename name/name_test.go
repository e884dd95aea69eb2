package name

import (
	"slices"
	"strings"
	"testing"

	"pleach/api"
)

// rows are all rows of a few names: 2^5.
func rows() [][]string {
	all := []string{"-", "0", "a", "ab", "z-9"}
	var l [][]string
	for set := range 1 << len(all) {
		row := []string{}
		for i, s := range all {
			if set>>i&1 == 1 {
				row = append(row, s)
			}
		}
		l = append(l, row)
	}
	return l
}

// some are names that stand ahead of, between, among and behind those of rows.
func some() []string {
	return []string{"-", "--", "0", "1", "a", "aa", "ab", "b", "z-9", "z-99", "zz"}
}

// roomy is a row with room behind its end, in which what is written by mistake would be seen.
func roomy(l []string) []string {
	r := make([]string, len(l), len(l)+4)
	copy(r, l)
	for i := len(l); i < cap(r); i++ {
		r[:cap(r)][i] = "room"
	}
	return r
}

// untouched tells whether a roomy row is what it was.
func untouched(r, was []string) bool {
	for _, s := range r[len(r):cap(r)] {
		if s != "room" {
			return false
		}
	}
	return slices.Equal(r, was)
}

// spoil writes over all of an answer, its room included.
func spoil(l []string) {
	l = l[:cap(l)]
	for i := range l {
		l[i] = "spoilt"
	}
}

func rises(l []string) bool {
	for i := 1; i < len(l); i++ {
		if l[i-1] >= l[i] {
			return false
		}
	}
	return true
}

func TestP5_1_Check(t *testing.T) {
	for _, s := range []string{"a", "z", "0", "9", "-", "--", "-a", "a-", "a-0", "000000000000", "abcdefghijkl", "mnopqrstuvwx", "yz0123456789"} {
		if e := Check(s); e != api.OK {
			t.Errorf("%q: %v", s, e)
		}
	}
	for _, s := range []string{"", "abcdefghijklm", strings.Repeat("a", 1000), "A", "aB", "Z", " ", "a b", "a ", "a_b", "a.b", "é", "a\x00", "\xff", "a\n", "`", "{", "/", ":", ",", "+"} {
		if e := Check(s); e != api.ErrArg {
			t.Errorf("%q: %v", s, e)
		}
	}
	for i := range 256 {
		c := string([]byte{byte(i)})
		want := api.ErrArg
		if strings.Contains("abcdefghijklmnopqrstuvwxyz0123456789-", c) {
			want = api.OK
		}
		for _, s := range []string{c, "a" + c, c + "a"} {
			if e := Check(s); e != want {
				t.Errorf("%q: %v", s, e)
			}
		}
	}
}

func TestP5_1_Row(t *testing.T) {
	for _, l := range rows() {
		if e := Row(l); e != api.OK {
			t.Error(l, e)
		}
	}
	for _, c := range []struct {
		l []string
		e api.Errno
	}{
		{nil, api.OK},
		{[]string{""}, api.ErrArg},
		{[]string{"a", "a"}, api.ErrOrder},
		{[]string{"b", "a"}, api.ErrOrder},
		{[]string{"ab", "a"}, api.ErrOrder},
		{[]string{"a", "c", "b"}, api.ErrOrder},
		{[]string{"b", "A"}, api.ErrArg},       // no name, ahead of its not rising
		{[]string{"b", "a", ""}, api.ErrOrder}, // what stands first is told
		{[]string{"a", "B", "a"}, api.ErrArg},
		{[]string{"a", "b", "c "}, api.ErrArg},
	} {
		if e := Row(c.l); e != c.e {
			t.Errorf("%q: %v", c.l, e)
		}
	}
}

func TestP5_2_Find(t *testing.T) {
	for _, l := range rows() {
		for _, s := range some() {
			want := 0
			for want < len(l) && l[want] < s {
				want++
			}
			if at, there := Find(l, s); at != want || there != slices.Contains(l, s) {
				t.Errorf("%q in %q: %d %v", s, l, at, there)
			}
		}
	}
}

func TestP5_2_With(t *testing.T) {
	for _, l := range rows() {
		for _, s := range some() {
			want := slices.Clone(l)
			if !slices.Contains(l, s) {
				want = append(want, s)
				slices.Sort(want)
			}
			r := roomy(l)
			got, other := With(r, s)
			if !slices.Equal(got, want) || other == slices.Contains(l, s) {
				t.Errorf("%q with %q: %q %v", l, s, got, other)
			}
			spoil(got)
			if !untouched(r, l) {
				t.Errorf("%q with %q: it became %q", l, s, r[:cap(r)])
			}
		}
	}
}

func TestP5_2_Without(t *testing.T) {
	for _, l := range rows() {
		for _, s := range some() {
			var want []string
			for _, x := range l {
				if x != s {
					want = append(want, x)
				}
			}
			r := roomy(l)
			got, other := Without(r, s)
			if !slices.Equal(got, want) || other != slices.Contains(l, s) {
				t.Errorf("%q without %q: %q %v", l, s, got, other)
			}
			spoil(got)
			if !untouched(r, l) {
				t.Errorf("%q without %q: it became %q", l, s, r[:cap(r)])
			}
		}
	}
}

func TestP5_2_OnlyAndAll(t *testing.T) {
	for _, a := range rows() {
		for _, b := range rows() {
			var only []string
			all := slices.Clone(b)
			for _, s := range a {
				if !slices.Contains(b, s) {
					only = append(only, s)
					all = append(all, s)
				}
			}
			slices.Sort(all)
			x, y := roomy(a), roomy(b)
			gotOnly, gotAll := Only(x, y), All(x, y)
			if !slices.Equal(gotOnly, only) || !slices.Equal(gotAll, all) {
				t.Errorf("%q, %q: only %q, all %q", a, b, gotOnly, gotAll)
			}
			spoil(gotOnly)
			spoil(gotAll)
			if !untouched(x, a) || !untouched(y, b) {
				t.Errorf("%q, %q: they became %q, %q", a, b, x[:cap(x)], y[:cap(y)])
			}
		}
	}
}

func TestP5_2_Nil(t *testing.T) {
	if at, there := Find(nil, "a"); at != 0 || there {
		t.Error(at, there)
	}
	if l, other := With(nil, "a"); !slices.Equal(l, []string{"a"}) || !other {
		t.Error(l, other)
	}
	if l, other := Without(nil, "a"); len(l) != 0 || other {
		t.Error(l, other)
	}
	if len(Only(nil, nil)) != 0 || len(All(nil, nil)) != 0 {
		t.Error("of nothing there is nothing")
	}
}

// Lists that do not rise: the calls end, and nothing that is handed in is another one.
func TestP5_2_ListsThatDoNotRise(t *testing.T) {
	for _, l := range [][]string{{"b", "a"}, {"a", "a", "a"}, {"", "z", "", "a"}, {"c", "b", "a", "d"}} {
		for _, s := range append(some(), "", "c", "A") {
			r, q := roomy(l), roomy(l[1:])
			Find(r, s)
			With(r, s)
			Without(r, s)
			Only(r, q)
			All(r, q)
			if !untouched(r, l) || !untouched(q, l[1:]) {
				t.Errorf("%q became %q", l, r[:cap(r)])
			}
		}
	}
}

func TestP5_3_WithoutLeadsBackFromWith(t *testing.T) {
	for _, l := range rows() {
		for _, s := range some() {
			with, other := With(l, s)
			if !other {
				continue
			}
			back, other := Without(with, s)
			if !slices.Equal(back, l) || !other {
				t.Errorf("%q with %q: %q, and back: %q", l, s, with, back)
			}
		}
	}
}

func TestP5_3_RowsStayRows(t *testing.T) {
	for _, a := range rows() {
		for _, s := range some() {
			with, _ := With(a, s)
			without, _ := Without(a, s)
			if Row(with) != api.OK || Row(without) != api.OK {
				t.Errorf("%q and %q: %q, %q", a, s, with, without)
			}
		}
		for _, b := range rows() {
			if !rises(Only(a, b)) || !rises(All(a, b)) {
				t.Errorf("%q, %q: %q, %q", a, b, Only(a, b), All(a, b))
			}
		}
	}
}
