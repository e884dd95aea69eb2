package quad

import (
	"cmp"
	"maps"
	"slices"

	"pleach/api"
	"pleach/cursor"
	"pleach/edit"
	"pleach/shelf"
	"pleach/tree"
)

// page is one of the four maps on its way, behind some of the ops.
type page struct {
	shelf  *shelf.Shelf
	root   string
	most   int                  // how many entries a graph's map has at most
	looked map[string]api.Delta // what was looked at, by keys: as it was, and as it is
	more   int                  // how many entries there are more than there were
	err    api.Errno            // what is wrong with what is stored, behind which nothing counts
}

// fail is told what is wrong with what is stored; the first error stays.
func (p *page) fail(e api.Errno) { p.err = cmp.Or(p.err, e) }

// see is what became of a key.
func (p *page) see(key string) api.Delta {
	d, looked := p.looked[key]
	if !looked {
		value, there, e := tree.Get(p.shelf, p.root, key)
		p.fail(e)
		d = api.Delta{Key: key, Old: value, New: value, Was: there, Is: there}
		p.looked[key] = d
	}
	return d
}

// has tells whether a key is there.
func (p *page) has(key string) bool { return p.see(key).Is }

// put gives a key a value.
func (p *page) put(x api.Entry) {
	d := p.see(x.Key)
	if !d.Is {
		p.more++
	}
	d.New, d.Is = x.Value, true
	p.looked[x.Key] = d
}

// drop lets an entry's key go.
func (p *page) drop(x api.Entry) {
	d := p.see(x.Key)
	if d.Is {
		p.more--
	}
	d.New, d.Is = "", false
	p.looked[x.Key] = d
}

// full tells whether there are as many entries as may be.
func (p *page) full() bool {
	n, e := size(p.shelf, p.root, p.most)
	p.fail(e)
	return n+p.more >= p.most
}

// began is with how many keys that begin with a text the map began.
func (p *page) began(begin string) int {
	var l []api.Entry
	_, e := size(p.shelf, p.root, p.most)
	if e == api.OK {
		l, e = cursor.Prefix(p.shelf, p.root, begin)
	}
	p.fail(e)
	return len(l)
}

// end is the tree of the map as it is. What no op changed is not looked at.
func (p *page) end() (string, api.Errno) {
	var l []api.Edit
	for _, key := range slices.Sorted(maps.Keys(p.looked)) {
		d := p.looked[key]
		if d.Was != d.Is || d.Old != d.New {
			l = append(l, api.Edit{Key: key, Value: d.New, Drop: !d.Is})
		}
	}
	if len(l) == 0 {
		return p.root, api.OK
	}
	if _, e := size(p.shelf, p.root, p.most); e != api.OK {
		return "", e
	}
	root, e := edit.Apply(p.shelf, p.root, l...)
	if e == api.ErrOrder { // the edits rise, so it is the leaves that do not
		return "", api.ErrRot
	}
	return root, e
}
