package script

import (
	"strconv"
	"strings"

	"pleach/api"
	"pleach/line"
	"pleach/three"
)

const indent = "  "

// told tells an answer, line by line.
func told(a api.Answer, tell func(l string)) {
	tell(strings.Join(first(a), blank))
	behind := func(l string) { tell(indent + l) }
	for _, s := range line.Graph(a.Graph) {
		behind(s)
	}
	for _, c := range a.Changes {
		behind(change(c))
	}
	for _, c := range a.Conflicts {
		behind(three.Show(c))
	}
	for _, s := range a.Log {
		behind(s)
	}
	for _, x := range a.Refs {
		behind(ref(x))
	}
}

// first is the words of an answer's first line.
func first(a api.Answer) []string {
	words := []string{"ok"}
	if a.Err != api.OK {
		words = []string{"error", strconv.Itoa(int(a.Err))}
	}
	if a.At > 0 {
		words = append(words, "at", strconv.Itoa(a.At))
	}
	if a.Hash != "" {
		words = append(words, a.Hash)
	}
	if len(a.Nums) > 0 {
		words = append(words, line.Nums(a.Nums))
	}
	return words
}

// kinds is the words for what a change is about.
var kinds = [...]string{api.FNode: "node", api.FLabel: "label", api.FProp: "property", api.FEdge: "edge", api.FMark: "mark", api.FAttr: "attribute"}

// change is a change as words: how it changed, what it is about, and whose.
func change(c api.Change) string {
	sign := "!"
	switch {
	case !c.Was:
		sign = "+"
	case !c.Is:
		sign = "-"
	}
	words := []string{sign + kinds[c.Kind], c.Id}
	if c.Key != "" {
		words = append(words, c.Key)
	}
	return strings.Join(words, blank)
}

// ref is a ref as words.
func ref(x api.Ref) string {
	kind := "branch"
	if x.Kind == api.Tag {
		kind = "tag"
	}
	return strings.Join([]string{kind, x.Name, x.Hash}, blank)
}
