package refs

import (
	"cmp"
	"fmt"
	"maps"
	"math"
	"slices"
	"testing"

	"pleach/api"
	"pleach/sample"
)

func branch(name, hash string) api.Ref { return api.Ref{Kind: api.Branch, Name: name, Hash: hash} }

func tag(name, hash string) api.Ref { return api.Ref{Kind: api.Tag, Name: name, Hash: hash} }

// few is branches and tags, some of them with one name.
func few() []api.Ref {
	return []api.Ref{branch("a", "x"), branch("b", "y"), branch("main", "x"), tag("a", "z"), tag("v1", "x")}
}

// many is so many branches.
func many(n int) []api.Ref {
	var l []api.Ref
	for i := range n {
		l = append(l, branch(fmt.Sprint("b", 100+i), fmt.Sprint("h", i%7)))
	}
	return l
}

func TestP37_1_Compare(t *testing.T) {
	l := append([]api.Ref{{Kind: math.MinInt, Name: "z"}, {Kind: 0, Name: ""}, branch("", "")}, few()...)
	l = append(l, tag("v10", ""), tag("v\xff", ""), api.Ref{Kind: math.MaxInt})
	for i, a := range l {
		for j, b := range l {
			a.Hash, b.Hash = "h", b.Hash+"g" // which plays no part
			if got := Compare(a, b); got != cmp.Compare(i, j) {
				t.Error(a, b, got)
			}
		}
	}
}

func TestP37_1_Check(t *testing.T) {
	long := "abcdefghijkl"
	for _, c := range []struct {
		e api.Errno
		l []api.Ref
	}{
		{api.OK, nil}, {api.OK, []api.Ref{}}, {api.OK, few()}, {api.OK, many(64)}, {api.OK, []api.Ref{branch(long, "\x00"), branch("z", "x"), tag("-", "x")}},
		{api.ErrLimit, many(65)}, {api.ErrLimit, make([]api.Ref, 65)}, {api.ErrLimit, slices.Repeat(many(1), 1000)}, // ahead of all others
		{api.ErrArg, make([]api.Ref, 64)},
		{api.ErrArg, []api.Ref{{}}}, {api.ErrArg, []api.Ref{{Kind: 0, Name: "a", Hash: "x"}}}, {api.ErrArg, []api.Ref{{Kind: 3, Name: "a", Hash: "x"}}}, {api.ErrArg, []api.Ref{{Kind: -1, Name: "a", Hash: "x"}}},
		{api.ErrArg, []api.Ref{branch("", "x")}}, {api.ErrArg, []api.Ref{branch("A", "x")}}, {api.ErrArg, []api.Ref{branch(long+"m", "x")}}, {api.ErrArg, []api.Ref{tag("a b", "x")}},
		{api.ErrArg, []api.Ref{branch("a", "")}}, {api.ErrArg, []api.Ref{tag("a", "")}},
		{api.ErrOrder, []api.Ref{branch("a", "x"), branch("a", "y")}}, {api.ErrOrder, []api.Ref{branch("b", "x"), branch("a", "x")}}, {api.ErrOrder, []api.Ref{tag("a", "x"), branch("b", "x")}}, {api.ErrOrder, []api.Ref{tag("a", "x"), tag("a", "x")}},
		{api.ErrOrder, []api.Ref{branch("b", "x"), branch("a", "x"), branch("c", "")}}, // one by one
		{api.ErrArg, []api.Ref{branch("b", "x"), branch("c", ""), branch("a", "x")}},
		{api.ErrArg, []api.Ref{branch("b", "x"), branch("a", "")}}, // of one ref what may not be is ahead of the order
		{api.ErrArg, append(few(), tag("v2", ""))}, {api.ErrOrder, append(few(), tag("v0", "x"))}, {api.ErrOrder, append(few(), branch("z", "x"))},
	} {
		if e := Check(c.l...); e != c.e {
			t.Error(c.l, e, c.e)
		}
	}
}

func TestP37_2_Get(t *testing.T) {
	for _, l := range [][]api.Ref{few(), many(64), nil} {
		for _, r := range l {
			if got := Get(l, r.Kind, r.Name); got != r.Hash {
				t.Error(r, got)
			}
		}
	}
	for _, c := range []struct {
		kind int
		s    string
	}{{api.Branch, "v1"}, {api.Tag, "b"}, {api.Tag, "main"}, {api.Branch, "c"}, {api.Branch, ""}, {0, "a"}, {3, "a"}, {-1, "a"}, {api.Tag, "z"}, {api.Branch, "A"}, {api.Branch, "aa"}} {
		if got := Get(few(), c.kind, c.s); got != "" {
			t.Error(c, got)
		}
		if got := Get(nil, c.kind, c.s); got != "" {
			t.Error(c, got)
		}
	}
}

func TestP37_2_Set(t *testing.T) {
	for _, c := range []struct {
		kind        int
		s, old, now string
		want        []api.Ref
	}{
		{api.Branch, "a", "x", "q", []api.Ref{branch("a", "q"), branch("b", "y"), branch("main", "x"), tag("a", "z"), tag("v1", "x")}},
		{api.Tag, "a", "z", "q", []api.Ref{branch("a", "x"), branch("b", "y"), branch("main", "x"), tag("a", "q"), tag("v1", "x")}},
		{api.Tag, "v1", "x", "x", few()}, // to the same
		{api.Branch, "a", "x", "", few()[1:]},
		{api.Tag, "v1", "x", "", few()[:4]},
		{api.Branch, "b", "y", "", slices.Delete(few(), 1, 2)},
		{api.Branch, "0", "", "q", slices.Insert(few(), 0, branch("0", "q"))},
		{api.Branch, "aa", "", "q", slices.Insert(few(), 1, branch("aa", "q"))},
		{api.Branch, "z", "", "q", slices.Insert(few(), 3, branch("z", "q"))},
		{api.Branch, "v1", "", "x", slices.Insert(few(), 3, branch("v1", "x"))},
		{api.Tag, "0", "", "q", slices.Insert(few(), 3, tag("0", "q"))},
		{api.Tag, "main", "", "q", slices.Insert(few(), 4, tag("main", "q"))},
		{api.Tag, "z", "", "q", append(few(), tag("z", "q"))},
	} {
		got, e := Set(few(), c.kind, c.s, c.old, c.now)
		if !slices.Equal(got, c.want) || e != api.OK {
			t.Error(c, got, e)
		}
	}
	if got, e := Set(nil, api.Tag, "a", "", "x"); !slices.Equal(got, []api.Ref{tag("a", "x")}) || e != api.OK {
		t.Error(got, e)
	}
	if got, e := Set([]api.Ref{tag("a", "x")}, api.Tag, "a", "x", ""); len(got) != 0 || e != api.OK {
		t.Error(got, e)
	}
}

func TestP37_2_SetsErrors(t *testing.T) {
	l := few()
	for _, c := range []struct {
		kind        int
		s, old, now string
		e           api.Errno
	}{
		{0, "a", "x", "y", api.ErrArg}, {3, "a", "x", "y", api.ErrArg}, {-1, "a", "", "y", api.ErrArg}, {math.MaxInt, "c", "", "y", api.ErrArg},
		{api.Branch, "", "", "y", api.ErrArg}, {api.Branch, "A", "", "y", api.ErrArg}, {api.Branch, "abcdefghijklm", "x", "y", api.ErrArg}, {api.Tag, "a b", "x", "", api.ErrArg},
		{api.Branch, "a", "", "", api.ErrArg}, {api.Branch, "c", "", "", api.ErrArg}, // ahead of ErrTwice
		{api.Branch, "a", "", "y", api.ErrTwice}, {api.Branch, "a", "", "x", api.ErrTwice}, {api.Tag, "v1", "", "x", api.ErrTwice},
		{api.Branch, "c", "x", "y", api.ErrNone}, {api.Branch, "c", "x", "", api.ErrNone}, {api.Branch, "v1", "x", "y", api.ErrNone}, {api.Tag, "main", "x", "y", api.ErrNone},
		{api.Branch, "a", "y", "z", api.ErrStale}, {api.Branch, "a", "y", "x", api.ErrStale}, {api.Tag, "a", "x", "", api.ErrStale}, {api.Branch, "a", "xx", "z", api.ErrStale},
	} {
		if got, e := Set(l, c.kind, c.s, c.old, c.now); got != nil || e != c.e {
			t.Error(c, got, e)
		}
		if got, e := Play(l, api.Record{Kind: c.kind, Name: c.s, Old: c.old, New: c.now}); got != nil || e != c.e {
			t.Error(c, got, e)
		}
	}
}

func TestP37_2_SetOfAFullRow(t *testing.T) {
	full := many(64)
	for _, c := range []struct {
		s, old, now string
		e           api.Errno
		left        int
	}{
		{"c", "", "x", api.ErrLimit, 0}, {"a", "", "x", api.ErrLimit, 0}, {"c", "x", "y", api.ErrNone, 0}, {"c", "", "", api.ErrArg, 0},
		{"b100", "", "x", api.ErrTwice, 0}, {"b100", "x", "y", api.ErrStale, 0}, {"b100", "h0", "x", api.OK, 64}, {"b100", "h0", "", api.OK, 63},
	} {
		got, e := Set(full, api.Branch, c.s, c.old, c.now)
		if len(got) != c.left || e != c.e {
			t.Error(c, len(got), e)
		}
	}
	if _, e := Set(full, api.Tag, "b100", "", "x"); e != api.ErrLimit {
		t.Error(e)
	}
	if got, e := Set(full[1:], api.Tag, "b100", "", "x"); len(got) != 64 || e != api.OK {
		t.Error(len(got), e)
	}
}

// A ref as it is kept in a map.
type key struct {
	kind int
	name string
}

// played is what Set is to answer, by the words alone.
func played(m map[key]string, r api.Record) api.Errno {
	is, there := m[key{r.Kind, r.Name}]
	switch {
	case there && r.Old == "":
		return api.ErrTwice
	case !there && r.Old != "":
		return api.ErrNone
	case there && is != r.Old:
		return api.ErrStale
	case !there && len(m) == 64:
		return api.ErrLimit
	}
	m[key{r.Kind, r.Name}] = r.New
	if r.New == "" {
		delete(m, key{r.Kind, r.Name})
	}
	return api.OK
}

// row is a map as refs.
func row(m map[key]string) []api.Ref {
	var l []api.Ref
	for k, hash := range m {
		l = append(l, api.Ref{Kind: k.kind, Name: k.name, Hash: hash})
	}
	slices.SortFunc(l, func(a, b api.Ref) int { return cmp.Or(cmp.Compare(a.Kind, b.Kind), cmp.Compare(a.Name, b.Name)) })
	return l
}

// drawn is a record that names what may be; whether refs let it be is open.
func drawn(d *sample.Dice, names int) api.Record {
	hash := []string{"", "x", "y"}
	r := api.Record{Kind: 1 + d.Below(2), Name: fmt.Sprint("n", d.Below(names)), Old: hash[d.Below(3)], New: hash[d.Below(3)]}
	if r.Old == "" && r.New == "" {
		r.New = "x"
	}
	return r
}

func TestP37_2_AnyRecords(t *testing.T) {
	var d sample.Dice
	met := map[api.Errno]int{}
	for _, names := range []int{2, 10, 100} {
		m := map[key]string{}
		var l []api.Ref
		var done []api.Record
		for range 1500 {
			r := drawn(&d, names)
			want := played(m, r)
			met[want]++
			got, e := Set(l, r.Kind, r.Name, r.Old, r.New)
			if e != want || e != api.OK && got != nil {
				t.Fatal(l, r, got, e, want)
			}
			if e == api.OK {
				l = got
				done = append(done, r)
			}
			if !slices.Equal(l, row(m)) || Check(l...) != api.OK {
				t.Fatal(l, m)
			}
		}
		if got, e := Play(nil, done...); !slices.Equal(got, l) || e != api.OK {
			t.Error(got, e)
		}
	}
	for _, e := range []api.Errno{api.OK, api.ErrTwice, api.ErrNone, api.ErrStale, api.ErrLimit} {
		if met[e] < 10 {
			t.Error(e, met[e])
		}
	}
}

func TestP37_2_Play(t *testing.T) {
	rec := func(name, old, now string) api.Record {
		return api.Record{Kind: api.Tag, Name: name, Old: old, New: now, Epoch: 9, Seq: -3, Tail: 5, Num: 7} // of which just four parts count
	}
	for _, c := range []struct {
		records []api.Record
		want    []api.Ref
		e       api.Errno
	}{
		{nil, few(), api.OK},
		{[]api.Record{rec("q", "", "1"), rec("q", "1", "2"), rec("q", "2", ""), rec("q", "", "3")}, slices.Insert(few(), 4, tag("q", "3")), api.OK},
		{[]api.Record{rec("a", "z", ""), rec("v1", "x", "")}, few()[:3], api.OK},
		{[]api.Record{rec("q", "", "1"), rec("q", "", "2"), rec("A", "", "2")}, nil, api.ErrTwice}, // the first error
		{[]api.Record{rec("q", "", "1"), rec("A", "", "2"), rec("q", "", "2")}, nil, api.ErrArg},
		{[]api.Record{rec("q", "1", "2"), rec("q", "", "1")}, nil, api.ErrNone},
		{[]api.Record{rec("a", "z", ""), rec("a", "z", "x")}, nil, api.ErrNone},
		{[]api.Record{rec("a", "z", "y"), rec("a", "z", "x")}, nil, api.ErrStale},
	} {
		if got, e := Play(few(), c.records...); !slices.Equal(got, c.want) || e != c.e {
			t.Error(c.records, got, e)
		}
	}
}

func TestP37_3_Records(t *testing.T) {
	got := Records(7, 900, 12, few()...)
	want := []api.Record{
		{Epoch: 7, Seq: 0, Kind: api.Branch, Name: "a", New: "x", Tail: 900, Num: 12},
		{Epoch: 7, Seq: 1, Kind: api.Branch, Name: "b", New: "y", Tail: 900, Num: 12},
		{Epoch: 7, Seq: 2, Kind: api.Branch, Name: "main", New: "x", Tail: 900, Num: 12},
		{Epoch: 7, Seq: 3, Kind: api.Tag, Name: "a", New: "z", Tail: 900, Num: 12},
		{Epoch: 7, Seq: 4, Kind: api.Tag, Name: "v1", New: "x", Tail: 900, Num: 12},
	}
	if !slices.Equal(got, want) {
		t.Error(got)
	}
	if got := Records(1, 2, 3); got != nil {
		t.Error(got)
	}
	if got := Records(math.MinInt, math.MaxInt, -1, api.Ref{Kind: 9, Name: "B"}); !slices.Equal(got, []api.Record{{Epoch: math.MinInt, Kind: 9, Name: "B", Tail: math.MaxInt, Num: -1}}) {
		t.Error(got)
	}
}

func TestP37_3_Hashes(t *testing.T) {
	for _, c := range []struct {
		l    []api.Ref
		want []string
	}{
		{nil, nil}, {few(), []string{"x", "y", "z"}}, {few()[1:2], []string{"y"}}, {many(64), []string{"h0", "h1", "h2", "h3", "h4", "h5", "h6"}},
		{[]api.Ref{branch("a", "z"), branch("b", "aa"), branch("c", "a"), tag("a", "z"), tag("b", "\xff")}, []string{"a", "aa", "z", "\xff"}},
	} {
		if got := Hashes(c.l...); !slices.Equal(got, c.want) {
			t.Errorf("%q", got)
		}
	}
}

func TestP37_4_PlayOfRecordsLeadsToTheRefs(t *testing.T) {
	var d sample.Dice
	for _, l := range [][]api.Ref{nil, few(), many(64), many(1)} {
		if got, e := Play(nil, Records(1, 0, 1, l...)...); !slices.Equal(got, l) || e != api.OK {
			t.Error(got, e)
		}
	}
	for range 100 {
		m := map[key]string{}
		for range 40 {
			played(m, drawn(&d, 30))
		}
		l := row(m)
		if got, e := Play(nil, Records(d.Below(99), d.Below(99), d.Below(99), l...)...); !slices.Equal(got, l) || e != api.OK {
			t.Error(got, e)
		}
		want := slices.Compact(slices.Sorted(maps.Values(m)))
		if got := Hashes(l...); !slices.Equal(got, want) {
			t.Error(got, want)
		}
	}
}

// Of refs that may not be the calls end, too.
func TestP37_2_RefsThatMayNotBe(t *testing.T) {
	odd := slices.Concat(few(), few(), many(200), []api.Ref{{}, {Kind: math.MinInt, Name: "\xff"}, tag("zz", "")})
	slices.Reverse(odd)
	for _, r := range append(odd, branch("q", "x")) {
		Get(odd, r.Kind, r.Name)
		for _, old := range []string{"", r.Hash, "q"} {
			Set(odd, r.Kind, r.Name, old, "n")
			Set(odd, r.Kind, r.Name, old, "")
		}
		Play(odd, Records(1, 2, 3, odd...)...)
	}
}

func TestP37_2_Memory(t *testing.T) {
	l := sample.Room(few(), tag("other", "o"))
	was := sample.All(l)
	records := sample.Room([]api.Record{{Kind: api.Branch, Name: "q", New: "x"}}, api.Record{Name: "other"})
	wasRecords := sample.All(records)
	answers := func() [][]api.Ref {
		added, _ := Set(l, api.Tag, "z", "", "x")
		changed, _ := Set(l, api.Branch, "a", "x", "y")
		dropped, _ := Set(l, api.Tag, "v1", "x", "")
		none, _ := Play(l)
		one, _ := Play(l, records...)
		return [][]api.Ref{added, changed, dropped, none, one}
	}
	want := answers()
	for _, got := range answers() {
		sample.Spoil(got)
	}
	sample.Spoil(Hashes(l...))
	sample.Spoil(Records(1, 2, 3, l...))
	Check(l...)
	Get(l, api.Tag, "a")
	if !slices.Equal(sample.All(l), was) || !slices.Equal(sample.All(records), wasRecords) {
		t.Error(l, records)
	}
	for i, got := range answers() {
		if !slices.Equal(got, want[i]) {
			t.Error(i, got)
		}
	}
}
