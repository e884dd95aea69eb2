package line

import (
	"cmp"
	"slices"
	"strings"

	"pleach/api"
)

const (
	blank = " "
	none  = "-" // stands for what is empty
)

// What stands behind a line's word, by a letter each.
const (
	aName     = 'n'
	anOld     = 'o'
	oldOrNone = 'q'
	aHash     = 'h'
	another   = 'a'
	anId      = 'i'
	aNote     = 'm'
	from      = 'f'
	to        = 't'
	aKey      = 'k'
	aValue    = 'v'
)

// anything is the letters of all that a call has, beside its ops.
const anything = "nohami"

// mayBeNone tells for which letters nothing may stand.
func mayBeNone(letter rune) bool { return letter == oldOrNone || letter == aNote }

// form is the word of a kind, and what stands behind it.
type form struct{ word, parts string }

// callForms is the lines of calls, by their kinds.
func callForms() []form {
	return []form{
		api.CCommit: {"commit", "nqm"}, api.CMerge: {"merge", "nohm"},
		api.CBranch: {"branch", "nh"}, api.CTag: {"tag", "nh"}, api.CMove: {"move", "noh"}, api.CDelete: {"delete", "no"}, api.CUntag: {"untag", "no"},
		api.CCheckout: {"checkout", "h"}, api.CNode: {"node", "hi"}, api.COut: {"out", "hi"}, api.CIn: {"in", "hi"}, api.CLabelled: {"labelled", "hi"},
		api.CDiff: {"diff", "ha"}, api.CBase: {"base", "ha"}, api.CLog: {"log", "h"},
		api.CRefs: {"refs", ""}, api.CRepack: {"repack", ""}, api.CCollect: {"collect", ""}, api.CStat: {"stat", ""},
	}
}

// opForms is those of ops.
func opForms() []form {
	return []form{
		api.OpNode: {"+node", "i"}, api.OpDropNode: {"-node", "i"}, api.OpEdge: {"+edge", "ift"}, api.OpDropEdge: {"-edge", "i"},
		api.OpLabel: {"+label", "ik"}, api.OpUnlabel: {"-label", "ik"}, api.OpMark: {"+mark", "ik"}, api.OpUnmark: {"-mark", "ik"},
		api.OpSet: {"+prop", "ikv"}, api.OpUnset: {"-prop", "ik"}, api.OpSetEdge: {"+attr", "ikv"}, api.OpUnsetEdge: {"-attr", "ik"},
	}
}

// call is a call, whose parts are found by letters.
type call struct{ api.Call }

func (c *call) part(letter rune) *string {
	switch letter {
	case aName:
		return &c.Name
	case anOld, oldOrNone:
		return &c.Old
	case aHash:
		return &c.Hash
	case another:
		return &c.Other
	case aNote:
		return &c.Note
	}
	return &c.Id
}

// op is an op likewise, and how its value is shown.
type op struct {
	api.Op
	shown string
}

func (o *op) part(letter rune) *string {
	switch letter {
	case from:
		return &o.From
	case to:
		return &o.To
	case aKey:
		return &o.Key
	case aValue:
		return &o.shown
	}
	return &o.Id
}

// show is a line, of the parts that are found by the letters.
func (f form) show(part func(letter rune) *string) string {
	s := f.word
	for _, letter := range f.parts {
		s += blank + cmp.Or(*part(letter), none)
	}
	return s
}

// read lays what stands in a line where its letters are found; the kind (0: it is none's).
func read(forms []form, line string, part func(letter rune) *string) int {
	words := strings.Split(line, blank)
	kind := slices.IndexFunc(forms, func(f form) bool { return f.word == words[0] && len(f.parts) == len(words)-1 })
	if kind < 0 {
		return 0
	}
	for i, letter := range forms[kind].parts {
		if s := words[i+1]; s != none || !mayBeNone(letter) {
			*part(letter) = s
		}
	}
	return kind
}
