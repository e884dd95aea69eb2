package repo

import (
	"slices"

	"pleach/api"
	"pleach/commit"
	"pleach/gdiff"
	"pleach/mark"
	"pleach/quad"
	"pleach/refs"
	"pleach/shelf"
)

// unmade stands for the name of a commit that is not made yet: whether its branch may name it is told ahead.
const unmade = "unmade"

func (r *Repo) commit(c api.Call) api.Answer {
	if !mayName(c) || len(c.Note) > api.MaxNote || len(c.Ops) > api.MaxOps || c.Old != "" && isNone(c.Old) {
		return refused(api.ErrArg)
	}
	if e := r.mayGrow(c); e != api.OK {
		return refused(e)
	}
	if c.Old == "" {
		return r.grow(c, r.applied)
	}
	return r.grow(c, r.applied, c.Old)
}

func (r *Repo) merge(c api.Call) api.Answer {
	if !mayName(c) || isNone(c.Old) || len(c.Note) > api.MaxNote {
		return refused(api.ErrArg)
	}
	if _, e := r.known(c.Hash); e != api.OK {
		return refused(e)
	}
	if e := r.mayGrow(c); e != api.OK {
		return refused(e)
	}
	return r.grow(c, r.merged, c.Old, c.Hash)
}

// mayGrow tells why the branch of a call may not name a commit more.
func (r *Repo) mayGrow(c api.Call) api.Errno {
	_, e := refs.Set(r.refs, api.Branch, c.Name, c.Old, unmade)
	switch {
	case e != api.OK:
		return e
	case c.Kind == api.CMerge && c.Hash == c.Old:
		return api.ErrTwice
	case r.num > api.MaxNum:
		return api.ErrLimit
	}
	return api.OK
}

// graphOf is the stored graph of a commit; of none that of nothing, which is put on the shelf.
func (r *Repo) graphOf(hash string) (string, api.Errno) {
	if hash == "" {
		return quad.Write(r.shelf, api.Graph{})
	}
	return r.Root(hash)
}

// applied is the stored graph that the ops of a call make of Old's.
func (r *Repo) applied(c api.Call) (string, api.Answer) {
	old, e := r.graphOf(c.Old)
	if e != api.OK {
		return "", refused(e)
	}
	root, at, e := quad.Apply(r.shelf, old, c.Ops...)
	return root, api.Answer{Err: e, At: at}
}

// merged is the stored graph that comes of Old's and Hash's.
func (r *Repo) merged(c api.Call) (string, api.Answer) {
	base, e := r.common(c.Old, c.Hash)
	if e != api.OK && e != api.ErrNone {
		return "", refused(e)
	}
	var roots [3]string
	for i, hash := range [...]string{base, c.Old, c.Hash} {
		if roots[i], e = r.graphOf(hash); e != api.OK {
			return "", refused(e)
		}
	}
	root, conflicts, e := gdiff.Merge(r.shelf, roots[0], roots[1], roots[2])
	return root, api.Answer{Err: e, Conflicts: conflicts}
}

// grow has the branch of a call name a commit more, with the stored graph that build makes on the shelf.
func (r *Repo) grow(c api.Call, build func(c api.Call) (string, api.Answer), parents ...string) api.Answer {
	n := r.shelf.Len()
	hash, a := r.store(c, build, parents)
	texts := r.needed(n, hash)
	r.shelf.Cut(n) // what lasts is put there again
	if a.Err != api.OK {
		return a
	}
	l, e := refs.Set(r.refs, api.Branch, c.Name, c.Old, hash)
	if e == api.OK {
		e = r.last(api.Record{Kind: api.Branch, Name: c.Name, Old: c.Old, New: hash, Num: r.num + 1}, texts...)
	}
	if e != api.OK {
		return refused(e)
	}
	put(r.shelf, texts)
	r.refs = l
	r.num++
	return api.Answer{Hash: hash}
}

// store puts a commit on the shelf, and its graph.
func (r *Repo) store(c api.Call, build func(c api.Call) (string, api.Answer), parents []string) (string, api.Answer) {
	l, e := r.known(parents...)
	if e != api.OK {
		return "", refused(e)
	}
	if slices.ContainsFunc(l, func(k api.Commit) bool { return k.Num >= r.num }) { // its parents have lesser numbers
		return "", refused(api.ErrRot)
	}
	root, a := build(c)
	if a.Err != api.OK {
		return "", a
	}
	hash, e := commit.Store(r.shelf, api.Commit{Num: r.num, Parents: parents, Graph: root, Note: c.Note})
	return hash, refused(e)
}

func put(s *shelf.Shelf, texts []string) {
	for _, text := range texts {
		s.Put(text)
	}
}

// needed is the texts that an object needs, itself included, of those that came behind the first n: a merge and a commit put more, where there was no graph to begin with.
func (r *Repo) needed(n int, name string) []string {
	made := shelf.New()
	put(made, r.shelf.Texts(n))
	met := map[string]struct{}{name: {}}
	for open := []string{name}; len(open) > 0; open = open[1:] {
		text, _ := made.Get(open[0])
		names, _ := mark.Names(text) // what was there ahead is not made: it needs nothing here
		for _, need := range names {
			if _, is := met[need]; !is {
				met[need] = struct{}{}
				open = append(open, need)
			}
		}
	}
	return made.Only(func(name string) bool {
		_, is := met[name]
		return is
	}).Texts(0)
}
