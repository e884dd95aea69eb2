package repo

import (
	"strings"

	"pleach/api"
	"pleach/area"
	"pleach/commit"
	"pleach/disk"
	"pleach/journal"
	"pleach/log"
	"pleach/pack"
	"pleach/refs"
	"pleach/seat"
	"pleach/shelf"
)

const nought = "\x00"

// Open is the repository of a disk.
func Open(d *disk.Disk) (*Repo, api.Errno) {
	if d.Size() == 0 { // just a disk that no call made has no sector
		return nil, api.ErrNil
	}
	var heads []string
	if e := each(d, 0, 2, func(s string) { heads = append(heads, s) }); e != api.OK {
		return nil, e
	}
	head, counts := seat.Choose(heads[0], heads[1])
	if !counts {
		var e api.Errno
		if head, e = lay(d); e != api.OK {
			return nil, e
		}
	}
	return read(d, head)
}

// lay makes a disk on which no head counts an empty repository: all else is noughts, safely, ahead of the head.
func lay(d *disk.Disk) (api.Head, api.Errno) {
	noughts := strings.Repeat(nought, api.Sector)
	for i := range d.Size() {
		s, e := d.Read(i)
		if e == api.OK && s != noughts {
			e = d.Write(i, noughts)
		}
		if e != api.OK {
			return api.Head{}, e
		}
	}
	head := api.Head{Epoch: 1, Num: 1}
	if e := d.Flush(); e != api.OK {
		return api.Head{}, e
	}
	return head, seatHead(d, head)
}

// seatHead makes a head last.
func seatHead(d *disk.Disk, head api.Head) api.Errno {
	s, e := seat.Put(head)
	if e == api.OK {
		e = d.Write(seat.Slot(head.Epoch), s)
	}
	if e == api.OK {
		e = d.Flush()
	}
	return e
}

// read is the repository that a disk has by its head.
func read(d *disk.Disk, head api.Head) (*Repo, api.Errno) {
	j, records, e := journal.Open(d, head.Half, head.Epoch)
	if e != api.OK {
		return nil, e
	}
	tail, num := journal.Tail(0, head.Num, records...)
	if !stand(d.Size(), head, tail, records) {
		return nil, api.ErrRot
	}
	packed, e := unpack(d, head)
	if e != api.OK {
		return nil, e
	}
	l, logged, e := readLog(d, head, tail)
	if e != api.OK {
		return nil, e
	}
	s, e := fill(append(packed, logged...))
	if e != api.OK {
		return nil, e
	}
	named, e := play(s, records)
	if e != api.OK {
		return nil, e
	}
	return &Repo{disk: d, head: head, shelf: s, log: l, journal: j, refs: named, num: num}, api.OK
}

// stand tells whether records may stand there: neither tails nor numbers fall, from the head's on, and all has room.
func stand(n int, head api.Head, tail int, records []api.Record) bool {
	if len(records) > 0 && records[0].Num < head.Num {
		return false
	}
	return journal.Rise(records...) && area.Fits(n, head.Pack, tail, len(records))
}

// unpack is the texts of the pack; of none, if there is no pack.
func unpack(d *disk.Disk, head api.Head) ([]string, api.Errno) {
	if head.Pack == 0 {
		return nil, api.OK
	}
	var b strings.Builder
	if e := each(d, area.First(d.Size(), head.Half), area.Sectors(head.Pack), func(s string) { b.WriteString(s) }); e != api.OK {
		return nil, e
	}
	p, e := pack.Open(b.String()[:head.Pack])
	if e != api.OK {
		return nil, api.ErrRot
	}
	texts, e := p.All()
	if e != api.OK {
		return nil, api.ErrRot
	}
	return texts, api.OK
}

// openLog is the log of a half, which has room at most up to the half's end.
func openLog(d *disk.Disk, head api.Head, tail int) (*log.Log, api.Errno) {
	n := d.Size()
	return log.Open(d, area.Log(n, head.Half, head.Pack), area.Room(n, head.Pack, 0)/api.Sector, tail)
}

// readLog is the log, and its texts.
func readLog(d *disk.Disk, head api.Head, tail int) (*log.Log, []string, api.Errno) {
	l, e := openLog(d, head, tail)
	if e != api.OK {
		return nil, nil, e
	}
	texts, e := l.All()
	if e != api.OK {
		return nil, nil, api.ErrRot
	}
	return l, texts, api.OK
}

// fill is a shelf of texts, each of which may stand there once.
func fill(texts []string) (*shelf.Shelf, api.Errno) {
	s := shelf.New()
	for i, text := range texts {
		if _, e := s.Put(text); e != api.OK || s.Len() != i+1 {
			return nil, api.ErrRot
		}
	}
	return s, api.OK
}

// play is the refs that records make, each of which must name a commit.
func play(s *shelf.Shelf, records []api.Record) ([]api.Ref, api.Errno) {
	l, e := refs.Play(nil, records...)
	if e != api.OK {
		return nil, api.ErrRot
	}
	for _, named := range l {
		if _, e := commit.Load(s, named.Hash); e != api.OK {
			return nil, api.ErrRot
		}
	}
	return l, api.OK
}
