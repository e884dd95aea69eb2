package graph

import (
	"slices"

	"pleach/api"
	"pleach/elem"
	"pleach/name"
)

// Right tells whether what an op names may be.
func Right(o api.Op) api.Errno {
	names := []string{o.Id}
	switch o.Kind {
	case api.OpNode, api.OpDropNode, api.OpDropEdge:
	case api.OpEdge:
		names = append(names, o.From, o.To)
	case api.OpLabel, api.OpUnlabel, api.OpMark, api.OpUnmark, api.OpUnset, api.OpUnsetEdge:
		names = append(names, o.Key)
	case api.OpSet, api.OpSetEdge:
		if e := elem.CheckProps([]api.Prop{{Key: o.Key, Value: o.Value}}); e != api.OK {
			return e
		}
	default:
		return api.ErrArg
	}
	for _, s := range names {
		if e := name.Check(s); e != api.OK {
			return e
		}
	}
	return api.OK
}

// OfEdge tells whether an op changes an edge's labels or properties.
func OfEdge(kind int) bool {
	switch kind {
	case api.OpMark, api.OpUnmark, api.OpSetEdge, api.OpUnsetEdge:
		return true
	}
	return false
}

// Turn changes labels and properties by an op.
func Turn(labels []string, props []api.Prop, o api.Op) ([]string, []api.Prop, api.Errno) {
	row, l, e := slices.Clone(labels), slices.Clone(props), api.ErrArg
	switch o.Kind {
	case api.OpLabel, api.OpMark:
		row, e = elem.Label(labels, o.Key)
	case api.OpUnlabel, api.OpUnmark:
		row, e = elem.Unlabel(labels, o.Key)
	case api.OpSet, api.OpSetEdge:
		l, e = elem.Set(props, o.Key, o.Value)
	case api.OpUnset, api.OpUnsetEdge:
		l, e = elem.Unset(props, o.Key)
	}
	if e != api.OK {
		return nil, nil, e
	}
	return row, l, api.OK
}

// Apply is a graph behind ops, all of them, or none: the place of the first one that may not be.
func Apply(g api.Graph, ops ...api.Op) (api.Graph, int, api.Errno) {
	if e := Check(g); e != api.OK {
		return api.Graph{}, 0, e
	}
	w := begin(g)
	for at, o := range ops {
		e := Right(o)
		if e == api.OK {
			e = w.does(o.Kind)(o)
		}
		if e != api.OK {
			return api.Graph{}, at, e
		}
	}
	return w.Graph, 0, api.OK
}

// way is a graph on its way, behind some of the ops; an error leaves it anyhow, as none asks for it any more.
type way struct {
	api.Graph
	touched map[string]int // of a node's Id how many ends of edges are there
}

func begin(g api.Graph) *way {
	w := &way{Graph: Copy(g), touched: map[string]int{}}
	for _, x := range w.Edges {
		w.touch(x, 1)
	}
	return w
}

// touch counts an edge's ends that come, or (by -1) go.
func (w *way) touch(x api.Edge, by int) {
	w.touched[x.From] += by
	w.touched[x.To] += by
}

// does is what an op of a kind does; the kind is one, as Right has told.
func (w *way) does(kind int) func(o api.Op) api.Errno {
	switch kind {
	case api.OpNode:
		return w.addNode
	case api.OpDropNode:
		return w.dropNode
	case api.OpEdge:
		return w.addEdge
	case api.OpDropEdge:
		return w.dropEdge
	}
	if OfEdge(kind) {
		return w.turnEdge
	}
	return w.turnNode
}

func (w *way) addNode(o api.Op) api.Errno {
	at, there := findNode(w.Nodes, o.Id)
	switch {
	case there:
		return api.ErrTwice
	case len(w.Nodes) >= api.MaxNodes:
		return api.ErrLimit
	}
	w.Nodes = slices.Insert(w.Nodes, at, api.Node{Id: o.Id})
	return api.OK
}

func (w *way) dropNode(o api.Op) api.Errno {
	at, there := findNode(w.Nodes, o.Id)
	switch {
	case !there:
		return api.ErrNone
	case w.touched[o.Id] > 0:
		return api.ErrBusy
	}
	w.Nodes = slices.Delete(w.Nodes, at, at+1)
	return api.OK
}

func (w *way) addEdge(o api.Op) api.Errno {
	at, there := findEdge(w.Edges, o.Id)
	_, from := findNode(w.Nodes, o.From)
	_, to := findNode(w.Nodes, o.To)
	switch {
	case there:
		return api.ErrTwice
	case !from || !to:
		return api.ErrNone
	case len(w.Edges) >= api.MaxEdges:
		return api.ErrLimit
	}
	x := api.Edge{Id: o.Id, From: o.From, To: o.To}
	w.Edges = slices.Insert(w.Edges, at, x)
	w.touch(x, 1)
	return api.OK
}

func (w *way) dropEdge(o api.Op) api.Errno {
	at, there := findEdge(w.Edges, o.Id)
	if !there {
		return api.ErrNone
	}
	w.touch(w.Edges[at], -1)
	w.Edges = slices.Delete(w.Edges, at, at+1)
	return api.OK
}

func (w *way) turnNode(o api.Op) api.Errno {
	at, there := findNode(w.Nodes, o.Id)
	if !there {
		return api.ErrNone
	}
	var e api.Errno
	n := &w.Nodes[at]
	n.Labels, n.Props, e = Turn(n.Labels, n.Props, o)
	return e
}

func (w *way) turnEdge(o api.Op) api.Errno {
	at, there := findEdge(w.Edges, o.Id)
	if !there {
		return api.ErrNone
	}
	var e api.Errno
	x := &w.Edges[at]
	x.Labels, x.Props, e = Turn(x.Labels, x.Props, o)
	return e
}
