package script

import (
	"slices"
	"strings"

	"pleach/api"
	"pleach/graph"
	"pleach/model"
)

// Book is the commits that were made, by their numbers.
type Book struct {
	names []string       // that of number 1 first
	nums  map[string]int // of each name its number
}

// Note notes a commit's name under the next number; false: it has one.
func (b *Book) Note(name string) bool {
	if b == nil {
		return false
	}
	if _, there := b.nums[name]; there {
		return false
	}
	if b.nums == nil {
		b.nums = map[string]int{}
	}
	b.names = append(b.names, name)
	b.nums[name] = len(b.names)
	return true
}

// Cut forgets all numbers from one on.
func (b *Book) Cut(num int) {
	if num < 1 || num > b.Len() {
		return
	}
	for _, name := range b.names[num-1:] {
		delete(b.nums, name)
	}
	b.names = b.names[:num-1]
}

// Len is how many there are.
func (b *Book) Len() int {
	if b == nil {
		return 0
	}
	return len(b.names)
}

// Name is the name of a commit that is called by its number; of another text itself.
func (b *Book) Name(s string) string {
	num, is := model.Number(s)
	switch {
	case !is:
		return s
	case num < 1 || num > b.Len():
		return strings.Repeat("\x00", api.Hash) // what no commit is named
	}
	return b.names[num-1]
}

// Called is how a commit is called.
func (b *Book) Called(name string) string {
	if b == nil {
		return name
	}
	if num, there := b.nums[name]; there {
		return model.Name(num)
	}
	return name
}

// Call is a call whose commits are called by their numbers, with their names.
func (b *Book) Call(c api.Call) api.Call {
	c.Old, c.Hash, c.Other = b.Name(c.Old), b.Name(c.Hash), b.Name(c.Other)
	c.Ops = slices.Clone(c.Ops)
	return c
}

// Answer is an answer, in which commits are called by their numbers.
func (b *Book) Answer(a api.Answer) api.Answer {
	a.Hash = b.Called(a.Hash)
	a.Graph = graph.Copy(a.Graph)
	a.Changes, a.Conflicts, a.Nums = slices.Clone(a.Changes), slices.Clone(a.Conflicts), slices.Clone(a.Nums)
	a.Log, a.Refs = slices.Clone(a.Log), slices.Clone(a.Refs)
	for i := range a.Log {
		a.Log[i] = b.Called(a.Log[i])
	}
	for i := range a.Refs {
		a.Refs[i].Hash = b.Called(a.Refs[i].Hash)
	}
	return a
}
