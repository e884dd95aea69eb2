package chunk

import (
	"math"
	"slices"
	"strconv"
	"strings"
	"testing"

	"pleach/api"
	"pleach/scan"
)

const some = "0123456789abcdef0123456789abcdef" // might be a name

// leaf is the chunk of Level 0 with keys, whose values are the keys turned about.
func leaf(keys ...string) api.Chunk {
	var c api.Chunk
	for _, key := range keys {
		b := []byte(key)
		slices.Reverse(b)
		c.Entries = append(c.Entries, api.Entry{Key: key, Value: string(b)})
	}
	return c
}

// over is a chunk of a level above 0 with keys; each Count is one more than that ahead.
func over(level int, keys ...string) api.Chunk {
	c := api.Chunk{Level: level}
	for i, key := range keys {
		c.Entries = append(c.Entries, api.Entry{Key: key, Value: strconv.Itoa(i) + some[1:]})
		c.Counts = append(c.Counts, i+1)
	}
	return c
}

// with is a chunk that was changed.
func with(c api.Chunk, change func(c *api.Chunk)) api.Chunk {
	c = copied(c)
	change(&c)
	return c
}

func copied(c api.Chunk) api.Chunk {
	c.Entries, c.Counts = slices.Clone(c.Entries), slices.Clone(c.Counts)
	return c
}

func same(a, b api.Chunk) bool {
	return a.Level == b.Level && slices.Equal(a.Entries, b.Entries) && slices.Equal(a.Counts, b.Counts)
}

func zero(c api.Chunk) bool { return c.Level == 0 && c.Entries == nil && c.Counts == nil }

const keys8 = "abcdefgh"

// mayBe are chunks that may be, at all edges.
func mayBe() map[string]api.Chunk {
	long := strings.Repeat("k", 64)
	return map[string]api.Chunk{
		"nothing":         {},
		"empty lists":     {Entries: []api.Entry{}, Counts: []int{}},
		"one":             leaf("a"),
		"two":             leaf("a", "b"),
		"eight":           leaf(strings.Split(keys8, "")...),
		"bytes":           leaf("\x00", "\x00\x00", "\x01", "a", "aa", "b", "\xff", "\xff\x00"),
		"long keys":       leaf(long[1:], long, long[1:]+"l"),
		"no values":       {Entries: []api.Entry{{Key: "a"}, {Key: "b"}}},
		"a long value":    {Entries: []api.Entry{{Key: "a", Value: strings.Repeat("v", 2048)}}},
		"above":           over(1, "a"),
		"above, two":      over(2, "a", "b"),
		"above, eight":    over(39, strings.Split(keys8, "")...),
		"the uppermost":   over(40, "a", "b"),
		"a long key":      over(1, long),
		"the counts' end": with(over(1, "a", "b"), func(c *api.Chunk) { c.Counts = []int{1 << 31, 1} }),
	}
}

// mayNotBe are chunks that may not be, by their errors.
func mayNotBe() map[api.Errno]map[string]api.Chunk {
	three := func(change func(c *api.Chunk)) api.Chunk { return with(leaf("a", "b", "c"), change) }
	above := func(change func(c *api.Chunk)) api.Chunk { return with(over(3, "a", "b", "c"), change) }
	long := strings.Repeat("k", 65)
	return map[api.Errno]map[string]api.Chunk{
		api.ErrArg: {
			"level -1":        three(func(c *api.Chunk) { c.Level = -1 }),
			"level -1, above": above(func(c *api.Chunk) { c.Level = -1 }),
			"the least level": above(func(c *api.Chunk) { c.Level = math.MinInt }),
			"level 41":        above(func(c *api.Chunk) { c.Level = 41 }),
			"level 2^32":      above(func(c *api.Chunk) { c.Level = 1 << 32 }),
			"nine":            leaf(strings.Split(keys8+"i", "")...),
			"nine, above":     over(1, strings.Split(keys8+"i", "")...),
			"none, above":     {Level: 1},
			"a count at 0":    three(func(c *api.Chunk) { c.Counts = []int{1} }),
			"counts at 0":     three(func(c *api.Chunk) { c.Counts = []int{1, 1, 1} }),
			"a count alone":   {Counts: []int{0}},
			"counts alone":    {Level: 1, Counts: []int{1}},
			"a count less":    above(func(c *api.Chunk) { c.Counts = c.Counts[:2] }),
			"a count more":    above(func(c *api.Chunk) { c.Counts = append(c.Counts, 1) }),
			"no counts":       above(func(c *api.Chunk) { c.Counts = nil }),
			"a count of 0":    above(func(c *api.Chunk) { c.Counts[0] = 0 }),
			"one below 0":     above(func(c *api.Chunk) { c.Counts[2] = -1 }),
			"too great":       above(func(c *api.Chunk) { c.Counts[1] = 1<<31 + 1 }),
			"an empty key":    three(func(c *api.Chunk) { c.Entries[0].Key = "" }),
			"an empty third":  three(func(c *api.Chunk) { c.Entries[2].Key = "" }),
			"a long key":      three(func(c *api.Chunk) { c.Entries[2].Key = long }),
			"a long value":    three(func(c *api.Chunk) { c.Entries[1].Value = strings.Repeat("v", 2049) }),
			"a long name":     above(func(c *api.Chunk) { c.Entries[1].Value += "x" }),
			"a short name":    above(func(c *api.Chunk) { c.Entries[1].Value = some[1:] }),
			"no name":         above(func(c *api.Chunk) { c.Entries[0].Value = "" }),
			"an empty, above": above(func(c *api.Chunk) { c.Entries[0].Key = "" }),
			"a long, above":   above(func(c *api.Chunk) { c.Entries[0].Key = long }),
		},
		api.ErrOrder: {
			"twice":         leaf("a", "a"),
			"falling":       leaf("b", "a"),
			"at the end":    leaf("a", "b", "c", "b"),
			"a piece":       leaf("a", "ab", "a"),
			"bytes":         leaf("\xff", "a"),
			"twice, above":  over(1, "a", "a"),
			"falling above": over(40, "a", "c", "b"),
		},
	}
}

func TestP19_1_Check(t *testing.T) {
	for what, c := range mayBe() {
		if e := Check(c); e != api.OK {
			t.Error(what, e)
		}
	}
	for want, l := range mayNotBe() {
		for what, c := range l {
			if e := Check(c); e != want {
				t.Error(what, e, want)
			}
		}
	}
}

func TestP19_1_CheckTellsTheFirstError(t *testing.T) {
	for what, c := range map[string]struct {
		c    api.Chunk
		want api.Errno
	}{
		"order ahead of a key":      {leaf("b", "a", ""), api.ErrOrder},
		"a key ahead of order":      {leaf("", "b", "a"), api.ErrArg},
		"one with both":             {leaf("b", ""), api.ErrArg},
		"order ahead of a value":    {with(leaf("b", "a", "c"), func(c *api.Chunk) { c.Entries[2].Value = strings.Repeat("v", 2049) }), api.ErrOrder},
		"a value and order":         {with(leaf("b", "a"), func(c *api.Chunk) { c.Entries[1].Value = strings.Repeat("v", 2049) }), api.ErrArg},
		"order ahead of a name":     {with(over(1, "b", "a", "c"), func(c *api.Chunk) { c.Entries[2].Value = "x" }), api.ErrOrder},
		"a name ahead of order":     {with(over(1, "b", "c", "a"), func(c *api.Chunk) { c.Entries[1].Value = "x" }), api.ErrArg},
		"the level, and order":      {over(41, "b", "a"), api.ErrArg},
		"nine, and order":           {leaf(strings.Split("ba"+keys8[1:], "")...), api.ErrArg},
		"how many counts and order": {with(over(1, "b", "a"), func(c *api.Chunk) { c.Counts = c.Counts[:1] }), api.ErrArg},
	} {
		if e := Check(c.c); e != c.want {
			t.Error(what, e, c.want)
		}
	}
}

// byHand is the text that the words of P19.1 tell.
func byHand(c api.Chunk) string {
	s := "L"
	if c.Level > 0 {
		s = "I" + string([]byte{byte(c.Level)})
	}
	s += string([]byte{byte(len(c.Entries))})
	for i, x := range c.Entries {
		s += scan.PutText(x.Key)
		if c.Level == 0 {
			s += scan.PutText(x.Value)
		} else {
			s += x.Value + scan.PutNum(c.Counts[i])
		}
	}
	return s
}

func TestP19_1_Put(t *testing.T) {
	for _, c := range []struct {
		c    api.Chunk
		want string
	}{
		{api.Chunk{}, "L\x00"},
		{leaf("ab", "b"), "L\x02\x02ab\x02ba\x01b\x01b"},
		{over(40, "a", "bc"), "I\x28\x02\x01a" + some + "\x01\x02bc" + "1" + some[1:] + "\x02"},
		{api.Chunk{Level: 1, Entries: []api.Entry{{Key: "k", Value: some}}, Counts: []int{300}}, "I\x01\x01\x01k" + some + "\xac\x02"},
	} {
		if s, e := Put(c.c); s != c.want || e != api.OK {
			t.Errorf("%q %v, want %q", s, e, c.want)
		}
	}
	for what, c := range mayBe() {
		was := copied(c)
		if s, e := Put(c); s != byHand(c) || e != api.OK || !same(c, was) {
			t.Errorf("%s: %q %v", what, s, e)
		}
	}
	for want, l := range mayNotBe() {
		for what, c := range l {
			if s, e := Put(c); s != "" || e != want {
				t.Errorf("%s: %q %v, want %v", what, s, e, want)
			}
		}
	}
}

func TestP19_1_TakeOfNone(t *testing.T) {
	for what, s := range map[string]string{
		"nothing":                   "",
		"a letter":                  "L",
		"another letter":            "M\x00",
		"a small one":               "l\x00",
		"a stored graph":            "G" + strings.Repeat(some, 4),
		"above, a letter":           "I",
		"above, a level":            "I\x01",
		"above, none":               "I\x01\x00",
		"above, level 0":            "I\x00\x00",
		"above, level 0, one":       "I\x00\x01\x01a\x00",
		"above, level 0, a count":   "I\x00\x01\x01a\x20" + some + "\x01",
		"above, level 0, a name":    "I\x00\x01\x01a" + some + "\x01",
		"level 41":                  "I\x29\x01\x01a" + some + "\x01",
		"a byte behind":             "L\x00\x00",
		"an entry behind":           "L\x00\x01a\x00",
		"an entry less":             "L\x02\x01a\x00",
		"a length of two bytes":     "L\x80\x00",
		"a key's length of two":     "L\x01\x81\x00a\x00",
		"a value's length of two":   "L\x01\x01a\x80\x00",
		"an empty key":              "L\x01\x00\x00",
		"a long key":                "L\x01\x41" + strings.Repeat("k", 65) + "\x00",
		"a long value":              "L\x01\x01a\x81\x10" + strings.Repeat("v", 2049),
		"nine":                      "L\x09" + strings.Join(strings.Split("abcdefghi", ""), "\x00\x01") + "\x00",
		"a huge number":             "L\xff\xff\xff\xff\xff\xff\xff\xff\xff\x01",
		"a huge length":             "L\x01\xff\xff\xff\xff\xff\xff\xff\xff\xff\x01",
		"keys that don't rise":      "L\x02\x01b\x00\x01a\x00",
		"a key twice":               "L\x02\x01a\x00\x01a\x00",
		"above, keys fall":          "I\x01\x02\x01b" + some + "\x01\x01a" + some + "\x01",
		"above, a short name":       "I\x01\x01\x01a" + some[1:] + "\x01",
		"above, a long name":        "I\x01\x01\x01a" + some + "x\x01",
		"above, a name's length":    "I\x01\x01\x01a\x20" + some + "\x01",
		"above, one has a length":   "I\x01\x02\x01a" + some + "\x01\x01b\x20" + some + "\x01",
		"above, an empty name":      "I\x01\x01\x01a\x00\x01",
		"above, a count of 0":       "I\x01\x01\x01a" + some + "\x00",
		"above, a count too great":  "I\x01\x01\x01a" + some + "\x81\x80\x80\x80\x08",
		"above, no count":           "I\x01\x01\x01a" + some,
		"above, two counts":         "I\x01\x01\x01a" + some + "\x01\x01",
		"above, a count of two":     "I\x01\x01\x01a" + some + "\x81\x00",
		"a count at level 0":        "L\x01\x01a\x20" + some + "\x01",
		"a name at level 0":         "L\x01\x01a" + some + "\x01",
		"a level of two bytes":      "I\x81\x00\x01\x01a" + some + "\x01",
		"how many of two bytes":     "L\x81\x00\x01a\x00",
		"a byte ahead":              "\x00L\x00",
		"two of them":               "L\x00L\x00",
		"a huge level":              "I\xff\xff\xff\xff\xff\xff\xff\xff\xff\x01\x01\x01a" + some + "\x01",
		"an entry that ends early":  "L\x01\x02a",
		"a value that ends early":   "L\x01\x01a\x02b",
		"above, a name ends early":  "I\x01\x01\x01a" + some[1:],
		"above, a huge count":       "I\x01\x01\x01a" + some + "\xff\xff\xff\xff\xff\xff\xff\xff\xff\x01",
		"above, nine":               byHand(over(1, strings.Split(keys8+"i", "")...)),
		"above, the empty key":      byHand(over(1, "")),
		"a text of no chunk at all": "hello",
	} {
		if c, e := Take(s); !zero(c) || e != api.ErrForm {
			t.Error(what, c, e)
		}
	}
	for what, c := range mayBe() {
		s := byHand(c)
		for i := range s {
			if c, e := Take(s[:i]); !zero(c) || e != api.ErrForm {
				t.Error(what, i, c, e)
			}
		}
	}
}

func TestP19_1_TakeTellsJustOne(t *testing.T) {
	for what, c := range mayBe() {
		s := []byte(byHand(c))
		for i := range min(8*len(s), 1500) {
			s[i/8] ^= 1 << (i % 8)
			got, e := Take(string(s))
			if e == api.OK && byHand(got) != string(s) || e != api.OK && (e != api.ErrForm || !zero(got)) {
				t.Errorf("%s, bit %d: %v %v", what, i, got, e)
			}
			s[i/8] ^= 1 << (i % 8)
		}
	}
}

func TestP19_2_Total(t *testing.T) {
	for _, c := range []struct {
		c    api.Chunk
		want int
	}{
		{api.Chunk{}, 0},
		{leaf("a"), 1},
		{leaf(strings.Split(keys8, "")...), 8},
		{over(1, "a"), 1},
		{over(40, "a", "b", "c"), 6},
		// made by hand
		{api.Chunk{Level: 1}, 0},
		{api.Chunk{Entries: make([]api.Entry, 20), Counts: []int{7}}, 20},
		{api.Chunk{Level: 1, Entries: make([]api.Entry, 3), Counts: []int{7, -2}}, 5},
		{api.Chunk{Level: -1, Entries: make([]api.Entry, 3), Counts: []int{7}}, 7},
		{api.Chunk{Level: 2, Counts: []int{math.MaxInt, 2}}, math.MinInt + 1},
		{api.Chunk{Level: 1, Counts: []int{1 << 31, 1 << 31, 1 << 31}}, 3 << 31},
	} {
		if n := Total(c.c); n != c.want {
			t.Error(c.c, n, c.want)
		}
	}
}

func TestP19_2_Last(t *testing.T) {
	for _, c := range []struct {
		c    api.Chunk
		want string
	}{
		{api.Chunk{}, ""},
		{api.Chunk{Level: 5}, ""},
		{leaf("a"), "a"},
		{leaf("a", "b", "ba"), "ba"},
		{over(3, "x", "y"), "y"},
		{leaf("b", "c", "a"), "a"}, // which is not the greatest one
		{leaf("b", ""), ""},
	} {
		if s := Last(c.c); s != c.want {
			t.Error(c.c, s, c.want)
		}
	}
}

func TestP19_2_Twig(t *testing.T) {
	for _, c := range mayBe() {
		for _, name := range []string{"", "n", some} {
			if got, want := Twig(c, name), (api.Twig{Key: Last(c), Name: name, Count: Total(c)}); got != want {
				t.Error(got, want)
			}
		}
	}
	if got, want := Twig(over(1, "a", "b"), some), (api.Twig{Key: "b", Name: some, Count: 3}); got != want {
		t.Error(got, want)
	}
}

func TestP19_2_Over(t *testing.T) {
	l := []api.Twig{{Key: "a", Name: some, Count: 3}, {Key: "b", Name: "x", Count: -1}, {Key: "a"}}
	was := slices.Clone(l)
	for _, level := range []int{0, 1, 40, 41, -1, math.MaxInt} {
		want := api.Chunk{Level: level, Entries: []api.Entry{{Key: "a", Value: some}, {Key: "b", Value: "x"}, {Key: "a"}}, Counts: []int{3, -1, 0}}
		if c := Over(level, l...); !same(c, want) || !slices.Equal(l, was) {
			t.Error(c)
		}
		if c := Over(level); c.Level != level || len(c.Entries) != 0 || len(c.Counts) != 0 {
			t.Error(c)
		}
	}
	c := over(7, "a", "b", "c")
	var twigs []api.Twig
	for i, x := range c.Entries {
		twigs = append(twigs, api.Twig{Key: x.Key, Name: x.Value, Count: c.Counts[i]})
	}
	if got := Over(7, twigs...); !same(got, c) || Check(got) != api.OK {
		t.Error(got)
	}
}

func TestP19_2_Find(t *testing.T) {
	for _, c := range []struct {
		c    api.Chunk
		key  string
		want int
	}{
		{api.Chunk{}, "", 0},
		{api.Chunk{}, "a", 0},
		{leaf("b", "d", "f"), "", 0},
		{leaf("b", "d", "f"), "a", 0},
		{leaf("b", "d", "f"), "b", 0},
		{leaf("b", "d", "f"), "b\x00", 1},
		{leaf("b", "d", "f"), "c", 1},
		{leaf("b", "d", "f"), "d", 1},
		{leaf("b", "d", "f"), "e", 2},
		{leaf("b", "d", "f"), "f", 2},
		{leaf("b", "d", "f"), "f\x00", 3},
		{leaf("b", "d", "f"), "\xff", 3},
		{over(9, "b", "d"), "c", 1},
		{over(9, "b", "d"), "e", 2},
		// keys that do not rise: the first one
		{leaf("b", "a", "b"), "b", 0},
		{leaf("a", "c", "a", "b", "a", "a", "a"), "b", 1},
		{leaf("a", "a", "a", "c", "a", "a", "a", "b"), "b", 3},
		{leaf("", "", "z", ""), "a", 2},
	} {
		if got := Find(c.c, c.key); got != c.want {
			t.Error(c.c, c.key, got, c.want)
		}
	}
}

func TestP19_3_TakeLeadsBack(t *testing.T) {
	for what, c := range mayBe() {
		got, e := Take(byHand(c))
		if !same(got, c) || e != api.OK {
			t.Error(what, got, e)
		}
	}
	for level := range 41 {
		for n := 1; n <= 8; n++ {
			c := over(level, strings.Split(keys8[:n], "")...)
			if level == 0 {
				c = leaf(strings.Split(keys8[:n], "")...)
			}
			s, e := Put(c)
			got, e2 := Take(s)
			if !same(got, c) || e != api.OK || e2 != api.OK {
				t.Error(level, n, got, e, e2)
			}
		}
	}
}

func TestP19_3_AnswersAreApart(t *testing.T) {
	s := byHand(over(1, "a", "b"))
	a, _ := Take(s)
	b, _ := Take(s)
	a.Entries[0].Key, a.Counts[0] = "x", 9
	if !same(b, over(1, "a", "b")) {
		t.Error(b)
	}
	l := []api.Twig{{Key: "a"}, {Key: "b"}}
	c := Over(1, l...)
	c.Entries[0].Key = "x"
	if l[0].Key != "a" {
		t.Error(l)
	}
}
