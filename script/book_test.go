package script

import (
	"fmt"
	"math"
	"reflect"
	"slices"
	"strings"
	"testing"

	"pleach/api"
	"pleach/calls"
	"pleach/sample"
)

var none = strings.Repeat("\x00", 32)

func sum(n int) string {
	return strings.Repeat(string([]byte{'A' + byte(n%26)}), 31) + string([]byte{byte(n / 26)})
}

// noted is a book of so many names.
func noted(n int) *Book {
	b := &Book{}
	for i := range n {
		b.Note(sum(i))
	}
	return b
}

// has tells whether a book has just these names, from number 1 on.
func has(t *testing.T, what any, b *Book, names ...string) {
	t.Helper()
	if b.Len() != len(names) {
		t.Error(what, b.Len(), len(names))
	}
	for i, name := range names {
		if got := b.Name(fmt.Sprint("#", i+1)); got != name {
			t.Errorf("%v %d: %q", what, i, got)
		}
		if got := b.Called(name); got != fmt.Sprint("#", i+1) {
			t.Errorf("%v %d: %q", what, i, got)
		}
	}
	for _, n := range []int{len(names) + 1, len(names) + 100, 0, math.MaxInt} {
		if got := b.Name(fmt.Sprint("#", n)); got != none {
			t.Errorf("%v %d: %q", what, n, got)
		}
	}
	for _, s := range []string{"", "#", "x", "1", "#01", "# 1", "#1 ", "#x", "##1", "#9223372036854775808", strings.Repeat("z", 32), none} {
		if b.Name(s) != s || b.Called(s) != s {
			t.Errorf("%v %q: %q %q", what, s, b.Name(s), b.Called(s))
		}
	}
}

func TestP44_1_Note(t *testing.T) {
	var b Book
	has(t, "plain", &b)
	var names []string
	for i := range 60 {
		if !b.Note(sum(i)) || b.Note(sum(i)) || b.Note(sum(i/2)) {
			t.Error(i)
		}
		names = append(names, sum(i))
		has(t, i, &b, names...)
	}
}

func TestP44_1_Cut(t *testing.T) {
	for _, n := range []int{0, 1, 5} {
		for num := -2; num < 9; num++ {
			b := noted(n)
			b.Cut(num)
			left := n
			if num >= 1 {
				left = min(n, num-1)
			}
			var names []string
			for i := range left {
				names = append(names, sum(i))
			}
			has(t, num, b, names...)
			for i := left; i < n; i++ { // what was forgotten may be noted again
				if b.Called(sum(i)) != sum(i) {
					t.Error(num, i)
				}
			}
			for i := range n {
				if b.Note(sum(i)) != (i >= left) {
					t.Error(num, i)
				}
			}
			b.Note("last")
			if b.Len() != n+1 || b.Called("last") != fmt.Sprint("#", n+1) {
				t.Error(num, b.Len())
			}
		}
	}
	b := noted(5)
	for _, num := range []int{math.MinInt, 0, math.MaxInt} {
		b.Cut(num)
	}
	if b.Len() != 5 {
		t.Error(b.Len())
	}
}

func TestP44_1_Call(t *testing.T) {
	b := noted(3)
	for _, c := range [][2]string{{"#1", sum(0)}, {"#3", sum(2)}, {"#4", none}, {"", ""}, {"x", "x"}, {sum(1), sum(1)}} {
		for _, other := range [][2]string{{"#2", sum(1)}, {"#99", none}, {"-", "-"}} {
			call := api.Call{Kind: api.CMerge, Name: "#1", Old: c[0], Hash: other[0], Other: c[0], Ops: []api.Op{{Id: "#1"}}, Note: "#1", Id: "#1"}
			want := call
			want.Old, want.Hash, want.Other = c[1], other[1], c[1]
			if got := b.Call(call); !reflect.DeepEqual(got, want) {
				t.Errorf("%+v", got)
			}
		}
	}
}

func TestP44_1_Answer(t *testing.T) {
	b := noted(3)
	a := api.Answer{
		Err: 9, At: 3, Hash: sum(2), Graph: api.Graph{Nodes: []api.Node{{Id: sum(0)}}}, Changes: []api.Change{{Kind: 1, Id: sum(0)}}, Conflicts: []api.Conflict{{Kind: 2, Id: sum(0)}},
		Log: []string{sum(1), "x", sum(0), ""}, Refs: []api.Ref{{Kind: 1, Name: sum(0), Hash: sum(0)}, {Kind: 2, Name: "v", Hash: "y"}}, Nums: []int{1, 2},
	}
	want := a
	want.Hash, want.Log, want.Refs = "#3", []string{"#2", "x", "#1", ""}, []api.Ref{{Kind: 1, Name: sum(0), Hash: "#1"}, {Kind: 2, Name: "v", Hash: "y"}}
	if got := b.Answer(a); !reflect.DeepEqual(got, want) {
		t.Errorf("%+v", got)
	}
	if got := calls.Plain(b.Answer(api.Answer{})); !reflect.DeepEqual(got, api.Answer{}) {
		t.Errorf("%+v", got)
	}
}

// Of nil: what a plain one answers, and nothing is noted.
func TestP44_1_NoBook(t *testing.T) {
	var b *Book
	if b.Note("x") || b.Len() != 0 {
		t.Error("is noted")
	}
	b.Cut(1)
	b.Cut(0)
	has(t, "nil", b)
	c := api.Call{Old: "#1", Hash: "x", Other: "#2", Name: "n"}
	if got := b.Call(c); !reflect.DeepEqual(got, (&Book{}).Call(c)) || got.Old != none || got.Hash != "x" {
		t.Errorf("%+v", got)
	}
	a := api.Answer{Hash: "x", Log: []string{"y"}, Refs: []api.Ref{{Hash: "z"}}}
	if got := b.Answer(a); !reflect.DeepEqual(got, a) {
		t.Errorf("%+v", got)
	}
}

// What is handed in is neither changed nor kept, and what is answered is nobody else's.
func TestP44_1_Memory(t *testing.T) {
	b := noted(3)
	c := api.Call{Hash: "#1", Ops: sample.Room([]api.Op{{Id: "a"}}, api.Op{Id: "other"})}
	got := b.Call(c)
	sample.Spoil(got.Ops)
	if l := sample.All(c.Ops); !slices.Equal(l, []api.Op{{Id: "a"}, {Id: "other"}, {Id: "other"}}[:len(l)]) {
		t.Error(l)
	}
	var d sample.Dice
	for range 50 {
		g := d.Graph()
		a := api.Answer{
			Graph: sample.RoomOf(g), Changes: sample.Room([]api.Change{{Id: "a"}}, api.Change{Id: "other"}), Conflicts: sample.Room([]api.Conflict{{Id: "a"}}, api.Conflict{Id: "other"}),
			Log: sample.Room([]string{sum(0)}, "other"), Refs: sample.Room([]api.Ref{{Hash: sum(1)}}, api.Ref{Hash: "other"}), Nums: sample.Room([]int{7}, 8),
		}
		whole := []any{sample.AllOf(a.Graph), sample.All(a.Changes), sample.All(a.Conflicts), sample.All(a.Log), sample.All(a.Refs), sample.All(a.Nums)}
		calls.Spoil(b.Answer(a))
		if l := []any{sample.AllOf(a.Graph), sample.All(a.Changes), sample.All(a.Conflicts), sample.All(a.Log), sample.All(a.Refs), sample.All(a.Nums)}; !reflect.DeepEqual(l, whole) {
			t.Fatal(l)
		}
	}
}
