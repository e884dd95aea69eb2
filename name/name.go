// Package name is layer 5: see ../../shared/doc/05-name.md.
package name

import (
	"slices"

	"pleach/api"
)

// Check tells whether a text may be a name.
func Check(s string) api.Errno {
	if len(s) < 1 || len(s) > api.MaxName {
		return api.ErrArg
	}
	for i := range len(s) {
		if !mayHave(s[i]) {
			return api.ErrArg
		}
	}
	return api.OK
}

func mayHave(c byte) bool {
	return 'a' <= c && c <= 'z' || '0' <= c && c <= '9' || c == '-'
}

// Row tells whether all are names, and rise.
func Row(l []string) api.Errno {
	ahead := "" // less than any name
	for _, s := range l {
		if e := Check(s); e != api.OK {
			return e
		}
		if s <= ahead {
			return api.ErrOrder
		}
		ahead = s
	}
	return api.OK
}

// Find is the place of a name in a row, or that where it would stand.
func Find(l []string, s string) (int, bool) { return slices.BinarySearch(l, s) }

// With is a row with a name more.
func With(l []string, s string) ([]string, bool) {
	at, there := Find(l, s)
	if there {
		return slices.Clone(l), false
	}
	return join(l[:at], s, l[at:]), true
}

// join lays all into a list of its own, as the room behind l's end is not ours.
func join(ahead []string, s string, behind []string) []string {
	row := make([]string, len(ahead)+1+len(behind))
	copy(row, ahead)
	row[len(ahead)] = s
	copy(row[len(ahead)+1:], behind)
	return row
}

// Without is a row with a name less.
func Without(l []string, s string) ([]string, bool) {
	at, there := Find(l, s)
	if !there {
		return slices.Clone(l), false
	}
	return slices.Concat(l[:at], l[at+1:]), true
}

// Only is the names of one row that are not in another one.
func Only(a, b []string) []string {
	var row []string
	for _, s := range a {
		if _, there := Find(b, s); !there {
			row = append(row, s)
		}
	}
	return row
}

// All is the names of both rows, in a row.
func All(a, b []string) []string {
	row := make([]string, 0, len(a)+len(b))
	for len(a) > 0 && len(b) > 0 {
		s := min(a[0], b[0])
		row = append(row, s)
		a, b = past(a, s), past(b, s)
	}
	row = append(row, a...)
	return append(row, b...)
}

// past is what is left of a row behind s, if it begins with it.
func past(l []string, s string) []string {
	if l[0] == s {
		return l[1:]
	}
	return l
}
