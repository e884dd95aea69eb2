package dag

import (
	"container/heap"
	"sort"

	"pleach/api"
)

// What a walk tells of a knot: which of the knots from which it went on come of it, and whether a knot that both of these come of does.
const (
	ofFirst  = 1 << 0
	ofSecond = 1 << 1
	beneath  = 1 << 2
	both     = ofFirst | ofSecond
)

// nexts is the numbers of the knots that come next, the greatest one first.
type nexts struct{ sort.IntSlice }

func (n nexts) Less(i, j int) bool { return n.IntSlice[i] > n.IntSlice[j] }

func (n *nexts) Push(x any) { n.IntSlice = append(n.IntSlice, x.(int)) }

func (n *nexts) Pop() any {
	last := n.Len() - 1
	x := n.IntSlice[last]
	n.IntSlice = n.IntSlice[:last]
	return x
}

// walk goes back through knots that may be. As parents have lesser numbers, whoever comes of a knot was visited ahead of it.
type walk struct {
	knots []api.Knot
	next  nexts
	sides map[int]int // of those that were met
}

// come is told more of a knot, which is visited once.
func (w *walk) come(n, sides int) {
	was, met := w.sides[n]
	if !met {
		heap.Push(&w.next, n)
	}
	w.sides[n] = was | sides
}

// run visits all knots that there are to go back to.
func (w *walk) run(visit func(n, sides int)) {
	for w.next.Len() > 0 {
		n := heap.Pop(&w.next).(int)
		sides := w.sides[n]
		visit(n, sides)
		if sides&both == both {
			sides |= beneath
		}
		at, _ := find(w.knots, n)
		for _, parent := range w.knots[at].Parents {
			w.come(parent, sides)
		}
	}
}

// picked is the knots of which a walk tells what is wanted, as far as the mask looks.
type picked struct {
	mask, want int
	nums       []int
}

func (p *picked) visit(n, sides int) {
	if sides&p.mask == p.want {
		p.nums = append(p.nums, n)
	}
}
