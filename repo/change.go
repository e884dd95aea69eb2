package repo

import (
	"pleach/api"
	"pleach/area"
	"pleach/frame"
	"pleach/name"
	"pleach/refs"
)

// mayName tells whether a ref may have the name of a call.
func mayName(c api.Call) bool { return name.Check(c.Name) == api.OK }

func (r *Repo) place(c api.Call) api.Answer {
	if !mayName(c) {
		return refused(api.ErrArg)
	}
	if _, e := r.known(c.Hash); e != api.OK {
		return refused(e)
	}
	return r.set(c, "", c.Hash)
}

func (r *Repo) move(c api.Call) api.Answer {
	if !mayName(c) || isNone(c.Old) {
		return refused(api.ErrArg)
	}
	if _, e := r.known(c.Hash); e != api.OK {
		return refused(e)
	}
	return r.set(c, c.Old, c.Hash)
}

func (r *Repo) drop(c api.Call) api.Answer {
	if !mayName(c) || isNone(c.Old) {
		return refused(api.ErrArg)
	}
	return r.set(c, c.Old, "")
}

// set has the ref of a call name something else.
func (r *Repo) set(c api.Call, old, now string) api.Answer {
	kind := api.Branch
	if c.Kind == api.CTag || c.Kind == api.CUntag {
		kind = api.Tag
	}
	l, e := refs.Set(r.refs, kind, c.Name, old, now)
	if e == api.OK {
		e = r.last(api.Record{Kind: kind, Name: c.Name, Old: old, New: now, Num: r.num})
	}
	if e != api.OK {
		return refused(e)
	}
	r.refs = l
	return api.Answer{}
}

// last makes texts last, and behind them a record.
func (r *Repo) last(x api.Record, texts ...string) api.Errno {
	tail := r.log.Tail()
	x.Tail = tail + frame.Size(texts...)
	if !area.Fits(r.disk.Size(), r.head.Pack, x.Tail, r.journal.Count()+1) {
		return api.ErrFull
	}
	e := r.log.Put(texts...)
	if e == api.OK {
		e = r.journal.Append(x)
	}
	if e != api.OK { // it is the disk's, as all may be, and fits
		r.log.Cut(tail)
		r.down = true
	}
	return e
}
