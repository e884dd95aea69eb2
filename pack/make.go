package pack

import (
	"maps"
	"slices"
	"strings"

	"pleach/api"
	"pleach/crc"
	"pleach/delta"
	"pleach/fan"
	"pleach/scan"
	"pleach/sha"
)

const (
	window   = 8                  // bytes of a row of which a mark tells
	maxMarks = 16                 // of a text
	mixer    = 0x9e3779b97f4a7c15 // leads rows that are nearly alike to marks that are far apart
)

// Make is the pack of texts.
func Make(texts ...string) (string, api.Errno) {
	which, e := named(sha.Sum, texts)
	if e != api.OK {
		return "", e
	}
	names := slices.Sorted(maps.Keys(which))
	f, e := fan.Of(names)
	if e != api.OK {
		return "", e
	}
	data, places := newMaker(texts, names, which).lay()
	var b strings.Builder
	b.WriteString(sign + scan.PutNum(len(names)) + f.Put() + strings.Join(names, ""))
	for _, name := range names {
		b.WriteString(scan.PutNum(places[which[name]]))
	}
	b.WriteString(data)
	return crc.Seal(b.String()), api.OK
}

// named tells which text has which name, if they may be packed. What sums is handed in, as no two unlike texts with one SHA-256 are known.
func named(sum func(parts ...string) string, texts []string) (map[string]int, api.Errno) {
	if len(texts) > api.MaxObjects {
		return nil, api.ErrLimit
	}
	which := map[string]int{}
	for i, s := range texts {
		if s == "" {
			return nil, api.ErrArg
		}
		if len(s) > api.MaxObject {
			return nil, api.ErrLimit
		}
		name := sum(s)
		if ahead, ok := which[name]; ok {
			if texts[ahead] != s {
				return nil, api.ErrClash
			}
			return nil, api.ErrTwice
		}
		which[name] = i
	}
	return which, api.OK
}

// maker lays texts one behind the other, and chooses their bases.
type maker struct {
	texts []string
	ranks []int          // of each text, its name's place among the names
	depth []int          // how many deltas lead to it
	last  map[uint64]int // of each mark the last text that has it, of those that may be a base
}

func newMaker(texts, names []string, which map[string]int) *maker {
	m := &maker{texts: texts, ranks: make([]int, len(texts)), depth: make([]int, len(texts)), last: map[uint64]int{}}
	for rank, name := range names {
		m.ranks[which[name]] = rank
	}
	return m
}

// lay is the data, and where in it each text stands.
func (m *maker) lay() (string, []int) {
	var b strings.Builder
	var places []int
	for i := range m.texts {
		places = append(places, b.Len())
		b.WriteString(m.object(i))
	}
	return b.String(), places
}

// object is a text as it stands in the data: as a delta, if that pays.
func (m *maker) object(i int) string {
	text := m.texts[i]
	s := scan.PutNum(whole) + scan.PutText(text)
	marks := marksOf(text)
	if base, ok := m.base(marks); ok {
		d, e := delta.Encode(m.texts[base], text)
		short, depth := scan.PutNum(m.ranks[base]+1)+scan.PutText(d), m.depth[base]+1
		if e == api.OK && pays(len(short), len(s), depth) {
			s, m.depth[i] = short, depth
		}
	}
	if m.depth[i] < api.MaxDepth {
		for _, k := range marks {
			m.last[k] = i
		}
	}
	return s
}

// pays tells whether a delta is short enough: the more of them lead to it, the shorter it must be, lest a long row of texts, each a bit unlike the one ahead, hang on an early one, and none of them be whole again.
func pays(size, full, depth int) bool {
	return size*api.MaxDepth < full*(api.MaxDepth+1-depth)
}

// base is the text that has most of the marks, of those that are the last with one of them.
func (m *maker) base(marks []uint64) (int, bool) {
	votes := map[int]int{}
	best, most := 0, 0
	for _, k := range marks {
		i, ok := m.last[k]
		if !ok {
			continue
		}
		votes[i]++
		if votes[i] > most {
			best, most = i, votes[i]
		}
	}
	return best, most > 0
}

// marksOf is a few sums of the rows of bytes in a text, the least ones, rising: so texts that have much in common have marks in common, wherever in them it stands.
func marksOf(text string) []uint64 {
	var marks []uint64
	var tail uint64 // the last bytes, as many as it takes
	for i := range len(text) {
		tail = tail<<8 | uint64(text[i])
		if i+1 >= window {
			marks = keep(marks, tail*mixer)
		}
	}
	return marks
}

// keep puts a sum among the least ones.
func keep(least []uint64, sum uint64) []uint64 {
	if len(least) == maxMarks && sum >= least[maxMarks-1] {
		return least
	}
	at, ok := slices.BinarySearch(least, sum)
	if ok {
		return least
	}
	return slices.Insert(least[:min(len(least), maxMarks-1)], at, sum)
}
