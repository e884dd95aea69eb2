package tree

import (
	"pleach/api"
	"pleach/chunk"
	"pleach/shelf"
)

// step is a chunk on the way down, its name, and which of its entries is the next to go down by.
type step struct {
	api.Chunk
	name string
	next int
}

// Each goes through the leaves, from the first one on, by a stack, as long as do says so.
func Each(s *shelf.Shelf, root string, do func(c api.Chunk, t api.Twig) bool) api.Errno {
	top, e := Load(s, root)
	if e != api.OK {
		return e
	}
	way := []step{{Chunk: top, name: root}}
	for len(way) > 0 {
		here := &way[len(way)-1]
		switch {
		case here.Level == 0:
			if !goesOn(do, here.Chunk, chunk.Twig(here.Chunk, here.name)) {
				return api.OK
			}
			way = way[:len(way)-1]
		case here.next == len(here.Entries):
			way = way[:len(way)-1]
		default:
			below, e := Child(s, here.Chunk, here.next)
			if e != api.OK {
				return e
			}
			name := here.Entries[here.next].Value
			here.next++
			way = append(way, step{Chunk: below, name: name})
		}
	}
	return api.OK
}

// goesOn asks what is done with a leaf. One that is none, or that panics, does not go on: no call of this package panics.
func goesOn(do func(c api.Chunk, t api.Twig) bool, c api.Chunk, t api.Twig) (on bool) {
	defer func() { _ = recover() }()
	return do(c, t)
}

// All is all entries.
func All(s *shelf.Shelf, root string) ([]api.Entry, api.Errno) {
	var l []api.Entry
	e := Each(s, root, func(c api.Chunk, _ api.Twig) bool {
		l = append(l, c.Entries...)
		return true
	})
	if e != api.OK {
		return nil, e
	}
	return l, api.OK
}

// Bottom is the leaves as twigs; of an empty map none.
func Bottom(s *shelf.Shelf, root string) ([]api.Twig, api.Errno) {
	var l []api.Twig
	e := Each(s, root, func(_ api.Chunk, t api.Twig) bool {
		if t.Count > 0 {
			l = append(l, t)
		}
		return true
	})
	if e != api.OK {
		return nil, e
	}
	return l, api.OK
}

// Count is how many entries there are.
func Count(s *shelf.Shelf, root string) (int, api.Errno) {
	c, e := Load(s, root)
	return chunk.Total(c), e
}

// Sound tells whether a tree is that of its entries. It ends at the first key that does not rise: where chunks stand in many places, a few of them may be a tree of a great many leaves.
func Sound(s *shelf.Shelf, root string) bool {
	var l []api.Entry
	e := Each(s, root, func(c api.Chunk, _ api.Twig) bool {
		ahead := len(l)
		l = append(l, c.Entries...)
		return ahead == 0 || l[ahead-1].Key < l[ahead].Key
	})
	if e != api.OK {
		return false
	}
	name, e := Build(shelf.New(), l...)
	return e == api.OK && name == root
}
