package repo

import (
	"slices"
	"strings"

	"pleach/api"
	"pleach/area"
	"pleach/entry"
	"pleach/journal"
	"pleach/mark"
	"pleach/pack"
	"pleach/refs"
	"pleach/seat"
	"pleach/shelf"
)

func (r *Repo) repack(api.Call) api.Answer { return refused(r.rewrite(r.shelf)) }

func (r *Repo) collect(api.Call) api.Answer {
	kept, e := mark.Kept(r.shelf, refs.Hashes(r.refs...)...)
	if e == api.OK {
		e = r.rewrite(kept)
	}
	return refused(e)
}

// rewrite has the other half count, with what a shelf has as its pack.
func (r *Repo) rewrite(s *shelf.Shelf) api.Errno {
	text, e := pack.Make(s.Texts(0)...)
	if e != api.OK {
		return e
	}
	if !area.Fits(r.disk.Size(), len(text), 0, len(r.refs)) {
		return api.ErrFull
	}
	head, e := seat.Next(r.head, len(text), r.num)
	if e != api.OK {
		return e
	}
	next := &Repo{disk: r.disk, head: head, shelf: s, refs: r.refs, num: r.num}
	if e = next.write(text); e == api.OK {
		e = next.open()
	}
	if e != api.OK { // it is the disk's, as all may be, and fits
		r.down = true
		return e
	}
	*r = *next
	return api.OK
}

// write writes the half that is to count, and then the head: till that is safe the other half counts.
func (r *Repo) write(packed string) api.Errno {
	text, e := r.layout(packed)
	if e != api.OK {
		return e
	}
	first := area.First(r.disk.Size(), r.head.Half)
	for i := range len(text) / api.Sector {
		if e := r.disk.Write(first+i, text[i*api.Sector:(i+1)*api.Sector]); e != api.OK {
			return e
		}
	}
	if e := r.disk.Flush(); e != api.OK {
		return e
	}
	return seatHead(r.disk, r.head)
}

// layout is the bytes of a half: the pack, noughts, and from its end backwards the records that make the refs.
func (r *Repo) layout(packed string) (string, api.Errno) {
	var sectors []string
	for _, x := range refs.Records(r.head.Epoch, 0, r.num, r.refs...) {
		s, e := entry.Put(x)
		if e != api.OK {
			return "", e
		}
		sectors = append(sectors, s)
	}
	slices.Reverse(sectors)
	records := strings.Join(sectors, "")
	free := area.Half(r.disk.Size())*api.Sector - len(packed) - len(records)
	return packed + strings.Repeat(nought, free) + records, api.OK
}

// open is a log and a journal of the half as it was written.
func (r *Repo) open() api.Errno {
	var e api.Errno
	if r.log, e = openLog(r.disk, r.head, 0); e != api.OK {
		return e
	}
	r.journal, e = journal.At(r.disk, r.head.Half, r.head.Epoch, len(r.refs))
	return e
}
