package elem

import (
	"cmp"
	"reflect"
	"slices"
	"strconv"
	"strings"
	"testing"

	"pleach/api"
	"pleach/sample"
)

func number(n int) api.Value  { return api.Value{Kind: api.VInt, Num: n} }
func text(s string) api.Value { return api.Value{Kind: api.VText, Text: s} }

// props is properties with keys, one behind the other.
func props(keys ...string) []api.Prop {
	var l []api.Prop
	for i, key := range keys {
		l = append(l, api.Prop{Key: key, Value: number(i)})
	}
	return l
}

// sameNode tells whether two nodes are the same, sameEdge two edges; nil and empty lists are.
func sameNode(a, b api.Node) bool {
	return reflect.DeepEqual(sample.Plain(api.Graph{Nodes: []api.Node{a}}), sample.Plain(api.Graph{Nodes: []api.Node{b}}))
}

func sameEdge(a, b api.Edge) bool {
	return reflect.DeepEqual(sample.Plain(api.Graph{Edges: []api.Edge{a}}), sample.Plain(api.Graph{Edges: []api.Edge{b}}))
}

// names is so many names that rise.
func names(n int) []string {
	var l []string
	for i := range n {
		l = append(l, "a"+strconv.Itoa(100+i))
	}
	return l
}

const long = "abcdefghijkl" // as long as a name may be

// badNames are none.
func badNames() []string { return []string{"", long + "m", "A", "a b", "a\x00", "é", "_"} }

// badValues may not be.
func badValues() []api.Value {
	return []api.Value{{}, {Kind: 4}, {Kind: -1}, {Kind: api.VBool, Num: 2}, {Kind: api.VInt, Text: "1"}, {Kind: api.VText, Num: 1}, text(strings.Repeat("a", 65))}
}

// rowCase is labels and properties of a node or an edge, and what is told of them.
type rowCase struct {
	labels []string
	props  []api.Prop
	e      api.Errno
}

func rowCases() []rowCase {
	return []rowCase{
		{nil, nil, api.OK},
		{[]string{}, []api.Prop{}, api.OK},
		{[]string{"-", "0", "a", long}, props("-", "0", "a", long), api.OK},
		{names(8), props(names(8)...), api.OK},
		{names(9), nil, api.ErrLimit},
		{append([]string{"A"}, names(8)...), props("A"), api.ErrLimit}, // ahead of all that is wrong with them
		{[]string{"b", "a"}, nil, api.ErrOrder},
		{[]string{"a", "a"}, nil, api.ErrOrder},
		{[]string{"A"}, nil, api.ErrArg},
		{[]string{"b", "A"}, nil, api.ErrArg},
		{[]string{"b", "a", "A"}, props("A"), api.ErrOrder},
		{[]string{"A"}, props(names(9)...), api.ErrArg}, // ahead of all that is wrong with the properties
		{[]string{"b", "a"}, props("A"), api.ErrOrder},
		{[]string{"a"}, props(names(9)...), api.ErrLimit},
		{[]string{"a"}, props("b", "a"), api.ErrOrder},
		{[]string{"a"}, props("A"), api.ErrArg},
	}
}

func TestP25_1_CheckProps(t *testing.T) {
	for i, c := range []struct {
		l []api.Prop
		e api.Errno
	}{
		{nil, api.OK},
		{[]api.Prop{}, api.OK},
		{props("a"), api.OK},
		{props("-", "0", "a", "ab", long, "b", "z"), api.OK},
		{props(names(8)...), api.OK},
		{[]api.Prop{{Key: "a", Value: text(strings.Repeat("a", 64))}, {Key: "b", Value: api.Value{Kind: api.VBool, Num: 1}}}, api.OK},
		{props(names(9)...), api.ErrLimit},
		{props(names(1000)...), api.ErrLimit},
		{props("b", "a", "A", "a", "a", "a", "a", "a", ""), api.ErrLimit}, // ahead of all that is wrong with them
		{props("a", "a"), api.ErrOrder},
		{props("ab", "a"), api.ErrOrder},
		{props("a", "c", "b"), api.ErrOrder},
		{props("b", "a", "A"), api.ErrOrder}, // what stands first is told
		{props("b", "A", "a"), api.ErrArg},
		{props("b", "A"), api.ErrArg}, // no name, ahead of its not rising
		{[]api.Prop{{Key: "b", Value: number(1)}, {Key: "a"}}, api.ErrArg},
		{[]api.Prop{{Key: "a", Value: number(1)}, {Key: "b"}}, api.ErrArg},
		{[]api.Prop{{Key: "b", Value: number(1)}, {Key: "a", Value: number(1)}, {Key: "c"}}, api.ErrOrder},
	} {
		if e := CheckProps(c.l); e != c.e {
			t.Error(i, e)
		}
	}
	for _, s := range badNames() {
		if e := CheckProps(props(s)); e != api.ErrArg {
			t.Errorf("%q: %v", s, e)
		}
	}
	for _, v := range badValues() {
		if e := CheckProps([]api.Prop{{Key: "a", Value: v}}); e != api.ErrArg {
			t.Error(v, e)
		}
	}
}

func TestP25_1_CheckNodeAndCheckEdge(t *testing.T) {
	for i, c := range rowCases() {
		if e := CheckNode(api.Node{Id: "a", Labels: c.labels, Props: c.props}); e != c.e {
			t.Error(i, e)
		}
		if e := CheckEdge(api.Edge{Id: "e", From: "a", To: "a", Labels: c.labels, Props: c.props}); e != c.e {
			t.Error(i, e)
		}
		for _, s := range badNames() { // ahead of all others
			if e := CheckNode(api.Node{Id: s, Labels: c.labels, Props: c.props}); e != api.ErrArg {
				t.Errorf("%d: %q: %v", i, s, e)
			}
			for _, x := range []api.Edge{{Id: s, From: "a", To: "b"}, {Id: "e", From: s, To: "b"}, {Id: "e", From: "a", To: s}} {
				x.Labels, x.Props = c.labels, c.props
				if e := CheckEdge(x); e != api.ErrArg {
					t.Errorf("%d: %q: %v", i, s, e)
				}
			}
		}
	}
	for _, s := range badNames() {
		if e := CheckNode(api.Node{Id: "a", Labels: []string{s}}); e != api.ErrArg {
			t.Errorf("%q: %v", s, e)
		}
		if e := CheckEdge(api.Edge{Id: "e", From: "a", To: "b", Labels: []string{s}}); e != api.ErrArg {
			t.Errorf("%q: %v", s, e)
		}
	}
}

// shape is labels and properties, and their bytes.
type shape struct {
	labels []string
	props  []api.Prop
	bytes  string
}

func shapes() []shape {
	return []shape{
		{nil, nil, "\x00\x00"},
		{[]string{"x"}, nil, "\x01\x01x\x00"},
		{[]string{"a", "bc"}, nil, "\x02\x01a\x02bc\x00"},
		{nil, []api.Prop{{Key: "k", Value: number(-1)}}, "\x00\x01\x01k\x02\x01"},
		{nil, []api.Prop{{Key: long, Value: text("")}}, "\x00\x01\x0c" + long + "\x03\x00"},
		{[]string{"x"}, []api.Prop{{Key: "k", Value: api.Value{Kind: api.VBool, Num: 1}}, {Key: "l", Value: text("a b")}, {Key: "m", Value: number(64)}}, "\x01\x01x\x03\x01k\x01\x01\x01l\x03\x03a b\x01m\x02\x80\x01"},
		{names(8), props(names(8)...), "\x08\x04a100\x04a101\x04a102\x04a103\x04a104\x04a105\x04a106\x04a107\x08\x04a100\x02\x00\x04a101\x02\x02\x04a102\x02\x04\x04a103\x02\x06\x04a104\x02\x08\x04a105\x02\x0a\x04a106\x02\x0c\x04a107\x02\x0e"},
	}
}

func TestP25_2_Put(t *testing.T) {
	for i, x := range shapes() {
		if s, e := PutNode(api.Node{Id: "a", Labels: x.labels, Props: x.props}); s != x.bytes || e != api.OK {
			t.Errorf("%d: %q %v", i, s, e)
		}
		if s, e := PutEdge(api.Edge{Id: "e", From: "a", To: "bc", Labels: x.labels, Props: x.props}); s != "\x01a\x02bc"+x.bytes || e != api.OK {
			t.Errorf("%d: %q %v", i, s, e)
		}
	}
}

func TestP25_2_PutsErrors(t *testing.T) {
	for i, c := range rowCases() {
		n := api.Node{Id: "a", Labels: c.labels, Props: c.props}
		if s, e := PutNode(n); e != c.e || (s == "") != (e != api.OK) {
			t.Error(i, s, e)
		}
		x := api.Edge{Id: "e", From: "a", To: "b", Labels: c.labels, Props: c.props}
		if s, e := PutEdge(x); e != c.e || (s == "") != (e != api.OK) {
			t.Error(i, s, e)
		}
		for _, bad := range badNames() {
			n.Id, x.To = bad, bad
			if s, e := PutNode(n); s != "" || e != api.ErrArg {
				t.Error(i, s, e)
			}
			if s, e := PutEdge(x); s != "" || e != api.ErrArg {
				t.Error(i, s, e)
			}
		}
	}
}

func TestP25_2_Take(t *testing.T) {
	for i, x := range shapes() {
		n, e := TakeNode("a", x.bytes)
		if !sameNode(n, api.Node{Id: "a", Labels: x.labels, Props: x.props}) || e != api.OK {
			t.Error(i, n, e)
		}
		y, e := TakeEdge("e", "\x01a\x02bc"+x.bytes)
		if !sameEdge(y, api.Edge{Id: "e", From: "a", To: "bc", Labels: x.labels, Props: x.props}) || e != api.OK {
			t.Error(i, y, e)
		}
		for _, bad := range badNames() {
			noNode(t, bad, x.bytes)
			noEdge(t, bad, "\x01a\x02bc"+x.bytes)
		}
		for k := range x.bytes {
			noNode(t, "a", x.bytes[:k])
			noEdge(t, "e", "\x01a\x02bc"+x.bytes[:k])
		}
		for _, more := range []string{"\x00", "a", x.bytes} {
			noNode(t, "a", x.bytes+more)
			noEdge(t, "e", "\x01a\x02bc"+x.bytes+more)
		}
	}
}

func noNode(t *testing.T, id, s string) {
	t.Helper()
	if n, e := TakeNode(id, s); !sameNode(n, api.Node{}) || e != api.ErrForm {
		t.Errorf("%q %q: %v %v", id, s, n, e)
	}
}

func noEdge(t *testing.T, id, s string) {
	t.Helper()
	if x, e := TakeEdge(id, s); !sameEdge(x, api.Edge{}) || e != api.ErrForm {
		t.Errorf("%q %q: %v %v", id, s, x, e)
	}
}

func TestP25_2_TakeOfNoBytes(t *testing.T) {
	nine, ofNine := "\x09", "\x00\x09"
	for _, s := range names(9) {
		nine += "\x04" + s
		ofNine += "\x04" + s + "\x02\x00"
	}
	for _, s := range []string{
		"", "\x00", "\x01", "\xff",
		"\x80\x00\x00", // a number in more bytes than it needs
		"\x00\x80\x00",
		"\x01\x81\x00x\x00",
		"\x00\x01\x01k\x02\x82\x00",
		"\x01\x01X\x00", // no name
		"\x01\x00\x00",
		"\x01\x0d" + long + "m\x00",
		"\x00\x01\x01K\x02\x02",
		"\x00\x01\x00\x02\x02",
		"\x02\x01b\x01a\x00", // labels, keys that do not rise
		"\x02\x01a\x01a\x00",
		"\x00\x02\x01b\x02\x02\x01a\x02\x02",
		"\x00\x02\x01a\x02\x02\x01a\x02\x02",
		"\x00\x01\x01k\x04\x02", // no value
		"\x00\x01\x01k\x01\x02",
		"\x00\x01\x01k\x03\x41" + strings.Repeat("a", 65),
		nine + "\x00", // too many
		ofNine,
		"\xff\xff\xff\xff\xff\xff\xff\xff\xff\x01",
		"\x00\xff\xff\xff\xff\xff\xff\xff\xff\xff\x01",
		"\x08", "\x00\x08",
	} {
		noNode(t, "a", s)
		noEdge(t, "e", "\x01a\x01b"+s)
	}
	for _, s := range []string{"", "\x00", "\x01", "\x01a", "\x01a\x01", "\x01a\x01b", "\x00\x01b\x00\x00", "\x01a\x00\x00\x00", "\x01A\x01b\x00\x00", "\x01a\x01B\x00\x00", "\x81\x00a\x01b\x00\x00", "\x0d" + long + "m\x01b\x00\x00", "\x01b\x00\x00"} {
		noEdge(t, "e", s)
	}
}

func TestP25_2_WhateverIsTakenHasTheseBytes(t *testing.T) {
	for _, x := range shapes()[:6] {
		for k := range x.bytes {
			for c := range 256 {
				s := x.bytes[:k] + string([]byte{byte(c)}) + x.bytes[k+1:]
				if n, e := TakeNode("a", s); e == api.OK {
					if put, e := PutNode(n); put != s || e != api.OK {
						t.Errorf("%q: %q %v", s, put, e)
					}
				} else {
					noNode(t, "a", s)
				}
			}
		}
	}
}

// someProps are rows of properties, some of more than may be.
func someProps() [][]api.Prop {
	return [][]api.Prop{nil, {}, props("b"), props("b", "d", "f"), props(names(7)...), props(names(8)...), props(names(9)...), props(names(20)...)}
}

func hasKey(l []api.Prop, key string) bool {
	return slices.ContainsFunc(l, func(p api.Prop) bool { return p.Key == key })
}

// without is properties without that of a key; sorted, they are a row.
func without(l []api.Prop, key string) []api.Prop {
	return slices.DeleteFunc(slices.Clone(l), func(p api.Prop) bool { return p.Key == key })
}

func sorted(l []api.Prop) []api.Prop {
	slices.SortFunc(l, func(a, b api.Prop) int { return cmp.Compare(a.Key, b.Key) })
	return l
}

func TestP25_3_Get(t *testing.T) {
	for _, l := range someProps() {
		for i, p := range l {
			if v, ok := Get(l, p.Key); v != number(i) || !ok {
				t.Error(p, v, ok)
			}
		}
		for _, key := range []string{"", "a", "bb", "c", "g", "a0", "zz", "A", "b\x00"} {
			if v, ok := Get(l, key); v != (api.Value{}) || ok {
				t.Error(key, v, ok)
			}
		}
	}
}

func TestP25_3_Set(t *testing.T) {
	for _, l := range someProps() {
		for _, key := range []string{"-", "a", "b", "c", "d", "e", "f", "g", "a099", "a100", "a103", "a106", "a107", "a108", "a119", "a120", long} {
			for _, v := range []api.Value{number(0), number(7), text(""), {Kind: api.VBool}} {
				r := sample.Room(l, api.Prop{Key: "other"})
				was := sample.All(r)
				got, e := Set(r, key, v)
				var want []api.Prop
				wantE := api.ErrLimit
				if hasKey(l, key) || len(l) < 8 {
					want, wantE = sorted(append(without(l, key), api.Prop{Key: key, Value: v})), api.OK
				}
				if !slices.Equal(got, want) || e != wantE {
					t.Error(l, key, v, got, e)
				}
				sample.Spoil(got)
				if !slices.Equal(sample.All(r), was) {
					t.Error(key, sample.All(r))
				}
			}
		}
	}
}

func TestP25_3_SetsErrors(t *testing.T) {
	for _, l := range someProps() { // ErrArg is ahead of ErrLimit
		for _, key := range badNames() {
			if got, e := Set(l, key, number(1)); len(got) != 0 || e != api.ErrArg {
				t.Errorf("%q: %v %v", key, got, e)
			}
		}
		for _, v := range badValues() {
			for _, key := range []string{"b", "c"} {
				if got, e := Set(l, key, v); len(got) != 0 || e != api.ErrArg {
					t.Error(v, got, e)
				}
			}
		}
	}
}

func TestP25_3_Unset(t *testing.T) {
	for _, l := range someProps() {
		for _, key := range append(badNames(), "a", "b", "c", "d", "f", "g", "a100", "a104", "a107", "a119") {
			r := sample.Room(l, api.Prop{Key: "other"})
			was := sample.All(r)
			got, e := Unset(r, key)
			var want []api.Prop
			wantE := api.ErrNone
			if hasKey(l, key) {
				want, wantE = without(l, key), api.OK
			}
			if !slices.Equal(got, want) || e != wantE {
				t.Errorf("%v %q: %v %v", l, key, got, e)
			}
			sample.Spoil(got)
			if !slices.Equal(sample.All(r), was) {
				t.Error(key, sample.All(r))
			}
		}
	}
}

// someLabels rise, whatever texts they are.
func someLabels() [][]string {
	return [][]string{nil, {}, {"b"}, {"b", "d"}, {"", "A", "b c", "bb", "\xff"}, names(7), names(8), names(9), names(20)}
}

func TestP25_3_Label(t *testing.T) {
	for _, l := range someLabels() {
		for _, s := range append(badNames(), "-", "a", "b", "bb", "c", "a099", "a100", "a104", "a107", "a119", "z", long) {
			r := sample.Room(l, "other")
			was := sample.All(r)
			got, e := Label(r, s)
			var want []string
			wantE := api.OK
			switch {
			case slices.Contains(badNames(), s): // though it may be there
				wantE = api.ErrArg
			case slices.Contains(l, s):
				wantE = api.ErrTwice
			case len(l) >= 8:
				wantE = api.ErrLimit
			default:
				want = append(slices.Clone(l), s)
				slices.Sort(want)
			}
			if !slices.Equal(got, want) || e != wantE {
				t.Errorf("%q %q: %q %v", l, s, got, e)
			}
			sample.Spoil(got)
			if !slices.Equal(sample.All(r), was) {
				t.Errorf("%q: %q", s, sample.All(r))
			}
		}
	}
}

func TestP25_3_Unlabel(t *testing.T) {
	for _, l := range someLabels() {
		for _, s := range append(badNames(), "a", "b", "b c", "bb", "\xff", "d", "a100", "a107", "a119", "z") {
			r := sample.Room(l, "other")
			was := sample.All(r)
			got, e := Unlabel(r, s)
			var want []string
			wantE := api.ErrNone
			if at := slices.Index(l, s); at >= 0 {
				want, wantE = slices.Delete(slices.Clone(l), at, at+1), api.OK
			}
			if !slices.Equal(got, want) || e != wantE {
				t.Errorf("%q %q: %q %v", l, s, got, e)
			}
			sample.Spoil(got)
			if !slices.Equal(sample.All(r), was) {
				t.Errorf("%q: %q", s, sample.All(r))
			}
		}
	}
}

// Lists that do not rise: the calls end, and change nothing of them.
func TestP25_3_ListsThatDoNotRise(t *testing.T) {
	for _, keys := range [][]string{{"b", "a"}, {"a", "a", "a"}, {"c", "", "b", "A", "a"}, {"z", "y", "x", "w", "v", "u", "t", "s", "r", "q"}} {
		l, r := sample.Room(props(keys...), api.Prop{Key: "other"}), sample.Room(keys, "other")
		wasL, wasR := sample.All(l), sample.All(r)
		for _, key := range append(badNames(), "a", "b", "c", "q", "z") {
			Get(l, key)
			Set(l, key, number(1))
			Unset(l, key)
			Label(r, key)
			Unlabel(r, key)
		}
		if !slices.Equal(sample.All(l), wasL) || !slices.Equal(sample.All(r), wasR) {
			t.Errorf("%q", keys)
		}
	}
}

func TestP25_4_TakeLeadsBackFromPut(t *testing.T) {
	var d sample.Dice
	for range 500 {
		g := d.Graph()
		for _, n := range g.Nodes {
			s, e := PutNode(n)
			if back, eBack := TakeNode(n.Id, s); !sameNode(back, n) || e != api.OK || eBack != api.OK {
				t.Errorf("%v: %q: %v %v %v", n, s, back, e, eBack)
			}
		}
		for _, x := range g.Edges {
			s, e := PutEdge(x)
			if back, eBack := TakeEdge(x.Id, s); !sameEdge(back, x) || e != api.OK || eBack != api.OK {
				t.Errorf("%v: %q: %v %v %v", x, s, back, e, eBack)
			}
		}
	}
}

func TestP25_4_NothingHandedInIsChanged(t *testing.T) {
	var d sample.Dice
	for range 100 {
		g := sample.RoomOf(d.Graph())
		was := sample.AllOf(g)
		for _, n := range g.Nodes {
			CheckNode(n)
			PutNode(n)
		}
		for _, x := range g.Edges {
			CheckEdge(x)
			PutEdge(x)
		}
		if !reflect.DeepEqual(sample.AllOf(g), was) {
			t.Fatal(g)
		}
	}
}

// What is taken has memory of its own: its labels' room is not that of another list.
func TestP25_4_WhatIsTakenIsApart(t *testing.T) {
	s := "\x01\x01x\x01\x01k\x02\x02"
	a, _ := TakeNode("a", s)
	b, _ := TakeNode("a", s)
	sample.Spoil(a.Labels)
	sample.Spoil(a.Props)
	if !sameNode(b, api.Node{Id: "a", Labels: []string{"x"}, Props: []api.Prop{{Key: "k", Value: number(1)}}}) {
		t.Error(b)
	}
}
