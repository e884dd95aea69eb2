// Package hand makes trees and stored graphs by hand for the tests of other packages, and takes shelves to pieces. No layer calls it.
package hand

import (
	"slices"
	"strconv"

	"pleach/api"
	"pleach/chunk"
	"pleach/shelf"
	"pleach/tree"
)

// put puts a chunk that may be.
func put(s *shelf.Shelf, c api.Chunk) api.Twig {
	t, _ := tree.Put(s, c)
	return t
}

// Even is the tree of entries, as Build makes it.
func Even(s *shelf.Shelf, l ...api.Entry) string {
	root, _ := tree.Build(s, l...)
	return root
}

// Odd is a tree of entries that Build does not make, though Load and Child tell no error of it: its chunks have two each, and it has two levels that it does not need.
func Odd(s *shelf.Shelf, l ...api.Entry) string {
	var row []api.Twig
	for pair := range slices.Chunk(l, 2) {
		row = append(row, put(s, api.Chunk{Entries: pair}))
	}
	if len(row) == 0 {
		return put(s, api.Chunk{}).Name
	}
	more := 2
	for level := 1; len(row) > 1 || more > 0; level++ {
		if len(row) == 1 {
			more--
		}
		var over []api.Twig
		for pair := range slices.Chunk(row, 2) {
			over = append(over, put(s, chunk.Over(level, pair...)))
		}
		row = over
	}
	return row[0].Name
}

// Store stores four maps as a graph's, whichever they are, in trees that plant makes.
func Store(s *shelf.Shelf, maps [4][]api.Entry, plant func(s *shelf.Shelf, l ...api.Entry) string) string {
	text := "G"
	for _, l := range maps {
		text += plant(s, l...)
	}
	name, _ := s.Put(text)
	return name
}

// Chunks is the names of all chunks of a tree, those above first.
func Chunks(s *shelf.Shelf, root string) []string {
	names := []string{root}
	for i := 0; i < len(names); i++ {
		c, _ := tree.Load(s, names[i])
		if c.Level == 0 {
			continue
		}
		for _, x := range c.Entries {
			names = append(names, x.Value)
		}
	}
	return names
}

// Way is the names of the chunks from a tree's root down to a key.
func Way(s *shelf.Shelf, root, key string) []string {
	names := []string{root}
	c, _ := tree.Load(s, root)
	for i := chunk.Find(c, key); c.Level > 0 && i < len(c.Entries); i = chunk.Find(c, key) {
		names = append(names, c.Entries[i].Value)
		c, _ = tree.Child(s, c, i)
	}
	return names
}

// Without is a shelf of all objects but some; With one of some alone.
func Without(s *shelf.Shelf, names ...string) *shelf.Shelf {
	return s.Only(func(n string) bool { return !slices.Contains(names, n) })
}

func With(s *shelf.Shelf, names ...string) *shelf.Shelf {
	return s.Only(func(n string) bool { return slices.Contains(names, n) })
}

// NoShelves are shelves that no call made.
func NoShelves() []*shelf.Shelf { return []*shelf.Shelf{nil, {}} }

// Thicket is a tree of a few chunks that stand in very many places, which has more entries than could be gone through. Their keys begin with a text, and have that value.
func Thicket(s *shelf.Shelf, begin, value string) string {
	g := growth{s, begin, value, map[[2]int]api.Twig{}}
	return g.grow(20, 500).Name
}

// growth is a thicket on its way: the chunks that it has by now, by their levels and the numbers of their last keys.
type growth struct {
	shelf        *shelf.Shelf
	begin, value string
	met          map[[2]int]api.Twig
}

// grow is the chunk of a level whose last key is the one with a number.
func (g growth) grow(level, number int) api.Twig {
	at := [2]int{level, number}
	if t, ok := g.met[at]; ok {
		return t
	}
	c := api.Chunk{Entries: []api.Entry{{Key: g.begin + strconv.Itoa(1000+number), Value: g.value}}}
	if level > 0 {
		var l []api.Twig // what stands below a first child is held against no key
		for i := range api.MaxChunk {
			below := g.grow(level-2, number+1-api.MaxChunk+i)
			l = append(l, put(g.shelf, chunk.Over(level-1, below)))
		}
		c = chunk.Over(level, l...)
	}
	t := put(g.shelf, c)
	g.met[at] = t
	return t
}
