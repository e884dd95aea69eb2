package model

import (
	"pleach/api"
)

// Do does a call.
func (s *State) Do(c api.Call) api.Answer {
	if s == nil {
		return refused(api.ErrNil)
	}
	return s.does(c.Kind)(c)
}

func refused(e api.Errno) api.Answer { return api.Answer{Err: e} }

// does is what does a call of a kind.
func (m *model) does(kind int) func(c api.Call) api.Answer {
	switch kind {
	case api.CCommit:
		return m.commit
	case api.CBranch, api.CTag:
		return m.place
	case api.CMove:
		return m.move
	case api.CDelete, api.CUntag:
		return m.drop
	case api.CMerge:
		return m.merge
	case api.CCollect:
		return m.collect
	}
	return m.asks(kind)
}

// asks is what answers a call of a kind that changes nothing.
func (m *model) asks(kind int) func(c api.Call) api.Answer {
	switch kind {
	case api.CCheckout:
		return m.checkout
	case api.CNode, api.COut, api.CIn, api.CLabelled:
		return m.part
	case api.CDiff:
		return m.diff
	case api.CBase:
		return m.base
	case api.CLog:
		return m.log
	case api.CRefs:
		return m.told
	case api.CRepack:
		return func(api.Call) api.Answer { return api.Answer{} }
	case api.CStat:
		return m.stat
	}
	return func(api.Call) api.Answer { return refused(api.ErrArg) }
}

// kindOf is the kind of the refs that a kind of calls is about.
func kindOf(kind int) int {
	if kind == api.CTag || kind == api.CUntag {
		return api.Tag
	}
	return api.Branch
}
