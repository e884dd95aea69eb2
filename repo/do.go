package repo

import (
	"slices"

	"pleach/api"
	"pleach/commit"
)

// Do does a call.
func (r *Repo) Do(c api.Call) api.Answer {
	switch {
	case !r.isMade():
		return refused(api.ErrNil)
	case r.down:
		return refused(api.ErrDown)
	}
	return r.does(c.Kind)(c)
}

func refused(e api.Errno) api.Answer { return api.Answer{Err: e} }

// does is what does a call of a kind.
func (r *Repo) does(kind int) func(c api.Call) api.Answer {
	switch kind {
	case api.CCommit:
		return r.commit
	case api.CMerge:
		return r.merge
	case api.CBranch, api.CTag:
		return r.place
	case api.CMove:
		return r.move
	case api.CDelete, api.CUntag:
		return r.drop
	case api.CRepack:
		return r.repack
	case api.CCollect:
		return r.collect
	}
	return r.asks(kind)
}

// asks is what answers a call of a kind that changes nothing.
func (r *Repo) asks(kind int) func(c api.Call) api.Answer {
	switch kind {
	case api.CCheckout:
		return r.checkout
	case api.CNode, api.COut, api.CIn, api.CLabelled:
		return r.part
	case api.CDiff:
		return r.diff
	case api.CBase:
		return r.base
	case api.CLog:
		return r.history
	case api.CRefs:
		return r.named
	case api.CStat:
		return r.stat
	}
	return func(api.Call) api.Answer { return refused(api.ErrArg) }
}

// isNone tells whether a text is no commit's name.
func isNone(hash string) bool { return len(hash) != api.Hash }

// known is the commits with some names: ErrArg, if one is no commit's name; ErrUnknown, if one is not known.
func (r *Repo) known(hashes ...string) ([]api.Commit, api.Errno) {
	if slices.ContainsFunc(hashes, isNone) {
		return nil, api.ErrArg
	}
	var l []api.Commit
	for _, hash := range hashes {
		k, e := commit.Load(r.shelf, hash)
		if e != api.OK {
			return nil, e
		}
		l = append(l, k)
	}
	return l, api.OK
}
