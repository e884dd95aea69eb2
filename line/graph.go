package line

import (
	"strconv"
	"strings"

	"pleach/api"
	"pleach/value"
)

// Graph is a graph as lines: of each node, of each edge.
func Graph(g api.Graph) []string {
	var l []string
	for _, n := range g.Nodes {
		l = append(l, thing(n.Labels, n.Props, "node", n.Id))
	}
	for _, x := range g.Edges {
		l = append(l, thing(x.Labels, x.Props, "edge", x.Id, x.From, x.To))
	}
	return l
}

// thing is a node or an edge as a line, which begins with some words.
func thing(labels []string, props []api.Prop, words ...string) string {
	for _, s := range labels {
		words = append(words, ":"+s)
	}
	for _, p := range props {
		words = append(words, p.Key+"="+value.Show(p.Value))
	}
	return strings.Join(words, blank)
}

// Nums is numbers as words.
func Nums(l []int) string {
	var words []string
	for _, n := range l {
		words = append(words, strconv.Itoa(n))
	}
	return strings.Join(words, blank)
}
