package quad

import (
	"cmp"

	"pleach/api"
	"pleach/elem"
	"pleach/graph"
	"pleach/keys"
	"pleach/shelf"
)

// work is a stored graph on its way, behind some of the ops. Of its maps just those keys are looked at that the ops name.
type work struct {
	nodes, edges, out, in page
	touched               map[string]int // of a node's Id how many ends of edges are there more than there were
}

func begin(s *shelf.Shelf, r api.Roots) *work {
	w := &work{touched: map[string]int{}}
	l := list(r)
	for i, p := range w.pages() {
		*p = page{shelf: s, root: l[i], most: most[i], looked: map[string]api.Delta{}}
	}
	return w
}

// pages is the four maps, in the order in which keys lays them.
func (w *work) pages() [4]*page { return [...]*page{&w.nodes, &w.edges, &w.out, &w.in} }

// err is what is wrong with what is stored, as far as it was looked at.
func (w *work) err() api.Errno { return cmp.Or(w.nodes.err, w.edges.err, w.out.err, w.in.err) }

// Apply is the stored graph behind ops, all of them, or none: the place of the first one that may not be.
func Apply(s *shelf.Shelf, name string, ops ...api.Op) (string, int, api.Errno) {
	r, e := Load(s, name)
	if e != api.OK {
		return "", 0, e
	}
	w := begin(s, r)
	for at, o := range ops {
		e := graph.Right(o)
		if e == api.OK {
			e = does(o.Kind)(w, o)
		}
		if rot := w.err(); rot != api.OK { // what the op was told then is no graph's
			return "", 0, rot
		}
		if e != api.OK {
			return "", at, e
		}
	}
	is, e := w.end()
	return is, 0, e
}

// end stores what the ops made.
func (w *work) end() (string, api.Errno) {
	var l [4]string
	for i, p := range w.pages() {
		root, e := p.end()
		if e != api.OK {
			return "", e
		}
		l[i] = root
	}
	return Put(w.nodes.shelf, roots(l))
}

// does is what an op of a kind does; the kind is one, as Right has told.
func does(kind int) func(w *work, o api.Op) api.Errno {
	switch kind {
	case api.OpNode:
		return (*work).addNode
	case api.OpDropNode:
		return (*work).dropNode
	case api.OpEdge:
		return (*work).addEdge
	case api.OpDropEdge:
		return (*work).dropEdge
	}
	if graph.OfEdge(kind) {
		return (*work).turnEdge
	}
	return (*work).turnNode
}

func (w *work) addNode(o api.Op) api.Errno {
	switch {
	case w.nodes.has(o.Id):
		return api.ErrTwice
	case w.nodes.full():
		return api.ErrLimit
	}
	w.putNode(api.Node{Id: o.Id})
	return api.OK
}

func (w *work) dropNode(o api.Op) api.Errno {
	begin := keys.Begin(o.Id)
	switch {
	case !w.nodes.has(o.Id):
		return api.ErrNone
	case w.out.began(begin)+w.in.began(begin)+w.touched[o.Id] > 0:
		return api.ErrBusy
	}
	w.nodes.drop(api.Entry{Key: o.Id})
	return api.OK
}

func (w *work) addEdge(o api.Op) api.Errno {
	switch {
	case w.edges.has(o.Id):
		return api.ErrTwice
	case !w.nodes.has(o.From) || !w.nodes.has(o.To):
		return api.ErrNone
	case w.edges.full():
		return api.ErrLimit
	}
	w.lay(api.Edge{Id: o.Id, From: o.From, To: o.To}, (*page).put, 1)
	return api.OK
}

func (w *work) dropEdge(o api.Op) api.Errno {
	x, there := look(&w.edges, o.Id, elem.TakeEdge)
	if !there {
		return api.ErrNone
	}
	w.lay(x, (*page).drop, -1)
	return api.OK
}

// lay has an edge's entries come or go in the three maps that have it, and its ends at its nodes.
func (w *work) lay(x api.Edge, do func(p *page, x api.Entry), by int) {
	l, _ := keys.Lay(api.Graph{Edges: []api.Edge{x}}) // its names may be: Right has told it, or TakeEdge
	for i, p := range w.pages() {
		for _, here := range l[i] {
			do(p, here)
		}
	}
	w.touched[x.From] += by
	w.touched[x.To] += by
}

func (w *work) turnNode(o api.Op) api.Errno {
	n, there := look(&w.nodes, o.Id, elem.TakeNode)
	if !there {
		return api.ErrNone
	}
	var e api.Errno
	n.Labels, n.Props, e = graph.Turn(n.Labels, n.Props, o)
	if e == api.OK {
		w.putNode(n)
	}
	return e
}

func (w *work) turnEdge(o api.Op) api.Errno {
	x, there := look(&w.edges, o.Id, elem.TakeEdge)
	if !there {
		return api.ErrNone
	}
	var e api.Errno
	x.Labels, x.Props, e = graph.Turn(x.Labels, x.Props, o)
	if e == api.OK {
		w.putEdge(x)
	}
	return e
}

// look is the node, the edge, with an Id.
func look[T any](p *page, id string, take func(id, s string) (T, api.Errno)) (T, bool) {
	var none T
	d := p.see(id)
	if !d.Is {
		return none, false
	}
	x, e := take(id, d.New)
	if e != api.OK {
		p.fail(api.ErrRot)
	}
	return x, e == api.OK
}

// putNode gives a node its bytes; putEdge an edge. What Turn leaves may be.
func (w *work) putNode(n api.Node) {
	s, _ := elem.PutNode(n)
	w.nodes.put(api.Entry{Key: n.Id, Value: s})
}

func (w *work) putEdge(x api.Edge) {
	s, _ := elem.PutEdge(x)
	w.edges.put(api.Entry{Key: x.Id, Value: s})
}
