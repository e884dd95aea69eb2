package commit

import (
	"cmp"
	"slices"

	"pleach/api"
	"pleach/shelf"
)

// row is commits, and their names, in the order in which they are met.
type row struct {
	shelf   *shelf.Shelf
	names   []string
	commits []api.Commit
	places  map[string]int // where each name's stands
}

// Back is the commits with these names, and all that they come of.
func Back(s *shelf.Shelf, names ...string) ([]string, []api.Commit, api.Errno) {
	r, e := walk(s, names)
	if e != api.OK {
		return nil, nil, e
	}
	return r.names, r.commits, api.OK
}

// walk meets the commits with these names, and all that they come of.
func walk(s *shelf.Shelf, names []string) (*row, api.Errno) {
	r := &row{shelf: s, places: map[string]int{}}
	e := each(names, r.meet)
	for at := 0; e == api.OK && at < len(r.commits); at++ { // the row grows on the way
		e = each(r.commits[at].Parents, r.meet)
	}
	if e == api.OK && !r.falls() { // at last, as a commit that is not there is told ahead of that
		e = api.ErrRot
	}
	return r, e
}

// each visits all names, up to the first error.
func each(names []string, visit func(name string) api.Errno) api.Errno {
	for _, name := range names {
		if e := visit(name); e != api.OK {
			return e
		}
	}
	return api.OK
}

// meet lays the commit with a name into the row, unless it is there.
func (r *row) meet(name string) api.Errno {
	if _, met := r.places[name]; met {
		return api.OK
	}
	c, e := Load(r.shelf, name)
	if e != api.OK {
		return e
	}
	r.places[name] = len(r.names)
	r.names, r.commits = append(r.names, name), append(r.commits, c)
	return api.OK
}

// num is the number of the commit with a name that was met.
func (r *row) num(name string) int { return r.commits[r.places[name]].Num }

// falls tells whether each parent's number is less than that of what comes of it.
func (r *row) falls() bool {
	return !slices.ContainsFunc(r.commits, func(c api.Commit) bool {
		return slices.ContainsFunc(c.Parents, func(name string) bool { return r.num(name) >= c.Num })
	})
}

// Knots is these commits in numbers, rising, and their names, likewise.
func Knots(s *shelf.Shelf, names ...string) ([]api.Knot, []string, api.Errno) {
	r, e := walk(s, names)
	if e != api.OK {
		return nil, nil, e
	}
	sorted := slices.Clone(r.names)
	slices.SortFunc(sorted, func(a, b string) int { return cmp.Compare(r.num(a), r.num(b)) })
	var l []api.Knot
	for i, name := range sorted {
		if i > 0 && r.num(name) == l[i-1].Num {
			return nil, nil, api.ErrRot
		}
		l = append(l, r.knot(name))
	}
	return l, sorted, api.OK
}

// knot is the commit with a name that was met, in numbers.
func (r *row) knot(name string) api.Knot {
	k := api.Knot{Num: r.num(name)}
	for _, parent := range r.commits[r.places[name]].Parents {
		k.Parents = append(k.Parents, r.num(parent))
	}
	return k
}
