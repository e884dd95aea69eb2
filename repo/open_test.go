package repo

import (
	"fmt"
	"reflect"
	"slices"
	"strings"
	"testing"

	"pleach/api"
	"pleach/area"
	"pleach/bound"
	"pleach/crc"
	"pleach/disk"
	"pleach/frame"
	"pleach/seat"
	"pleach/sha"
)

var (
	noughts = strings.Repeat("\x00", api.Sector)
	rubbish = strings.Repeat("\xff", api.Sector)
)

// filled is a disk, each sector of which shows s.
func filled(t *testing.T, n int, s string) *disk.Disk {
	t.Helper()
	d, e := disk.Load(api.Image{Sectors: slices.Repeat([]string{s}, n)})
	if e != api.OK {
		t.Fatal(e)
	}
	return d
}

// empty is told whether a repository is one that has nothing, on a disk that has but the first head.
func empty(t *testing.T, what any, r *Repo) {
	t.Helper()
	head, records, tail := r.Head()
	if head != (api.Head{Epoch: 1, Num: 1}) || records != 0 || tail != 0 || len(r.Objects()) != 0 {
		t.Fatal(what, head, records, tail, r.Objects())
	}
	if a := r.Do(api.Call{Kind: api.CStat}); !slices.Equal(a.Nums, []int{0, 0, 1}) || r.Do(api.Call{Kind: api.CRefs}).Refs != nil {
		t.Fatal(what, a)
	}
	s, _ := seat.Put(head)
	x := r.Disk().Seize()
	want := slices.Repeat([]string{noughts}, len(x.Sectors))
	want[1] = s
	if !slices.Equal(x.Sectors, want) {
		t.Fatal(what, "shows something else")
	}
	if len(x.Cache) != 0 {
		t.Fatal(what, "is not flushed")
	}
}

func TestP41_1_OpenOfNoDisk(t *testing.T) {
	for _, d := range []*disk.Disk{nil, {}} {
		if r, e := Open(d); r != nil || e != api.ErrNil {
			t.Error(r, e)
		}
	}
}

func TestP41_1_OpenOfAnEmptyDisk(t *testing.T) {
	for _, n := range []int{16, 17, 64, 4095, 4096} {
		d := drive(t, n)
		r := opened(t, d)
		empty(t, n, r)
		if ops := d.Ops(); ops > bound.Open(n) || ops < n {
			t.Error(n, ops)
		}
		x := d.Seize()
		empty(t, n, opened(t, d))
		if !reflect.DeepEqual(d.Seize(), x) {
			t.Error(n, "is written anew")
		}
	}
}

// Just what does not show noughts is written with noughts; then a flush, the head, a flush.
func TestP41_1_WhatOpenWrites(t *testing.T) {
	for _, odd := range [][]int{nil, {1}, {0}, {15}, {2, 9}, {0, 1, 2, 3, 4, 5, 6, 7, 8, 9, 10, 11, 12, 13, 14, 15}} {
		for step := 1; step <= len(odd)+4; step++ {
			d := filled(t, 16, noughts)
			for _, i := range odd {
				d.Over(i, rubbish)
			}
			d.Arm(step)
			_, e := Open(d)
			if (e == api.OK) != (step > len(odd)+3) {
				t.Fatal(odd, step, e)
			}
			if cache := d.Seize().Cache; e != api.OK && step <= len(odd) && len(cache) != step-1 {
				t.Fatal(odd, step, cache)
			}
		}
	}
}

// Where no head counts, all is made anew, whatever there was.
func TestP41_1_OpenWhereNoHeadCounts(t *testing.T) {
	head := func(epoch int) string {
		s, _ := seat.Put(api.Head{Epoch: epoch, Num: 7})
		return s
	}
	for what, heads := range map[string][2]string{
		"rubbish": {rubbish, rubbish}, "none": {noughts, noughts}, "the wrong slots": {head(1), head(2)}, "a record": {noughts, strings.Repeat("R", 128)},
		"spoiled": {noughts, "\x00" + head(1)[1:]}, "spoiled behind": {noughts, head(1)[:127] + "\x01"},
	} {
		for _, s := range []string{noughts, rubbish, head(1), head(2)} {
			d := filled(t, 40, s)
			d.Over(0, heads[0])
			d.Over(1, heads[1])
			empty(t, what, opened(t, d))
			if d.Ops() > bound.Open(40) {
				t.Error(what, d.Ops())
			}
		}
	}
}

// The power may go at any step: till the head is there, no head counts; once it is there, all else is noughts.
func TestP41_1_OpenIsCutShort(t *testing.T) {
	for _, n := range []int{16, 33} {
		for step := 1; ; step++ {
			d := filled(t, n, rubbish)
			d.Arm(step)
			r, e := Open(d)
			if e == api.OK {
				if step != n+4 { // n writes, a flush, the head, a flush
					t.Error(step)
				}
				break
			}
			if r != nil || e != api.ErrDown {
				t.Fatal(step, r, e)
			}
			for keep := range len(d.Seize().Cache) + 2 {
				other := copied(t, d)
				var kept []int
				for i := range keep {
					kept = append(kept, i*7%max(keep, 1))
				}
				other.Crash(kept...)
				if r, e := Open(other); r != nil || e != api.ErrDown {
					t.Fatal(step, r, e)
				}
				other.Boot()
				if s, _ := other.Read(1); s != noughts && s != rubbish && step < n+2 {
					t.Fatal(step, "the head is there")
				}
				empty(t, step, opened(t, other))
			}
		}
	}
}

func TestP41_1_WhatADiskHas(t *testing.T) {
	first, more, one, other := two(t)
	for half := range 2 {
		for _, n := range []int{28, 29, 64, 4096} {
			for _, fill := range []string{"", rubbish} {
				k := good(t)
				k.n, k.head.Half, k.fill = n, half, fill
				d := k.disk(t)
				was := d.Seize()
				r := opened(t, d)
				k.head.Pack = len(k.pack)
				if head, records, tail := r.Head(); head != k.head || records != 3 || tail != len(k.log) {
					t.Error(head, records, tail)
				}
				names := []string{}
				for _, text := range append(first, more...) {
					name := sha.Sum(text)
					names = append(names, name)
					if s, ok := r.Object(name); s != text || !ok {
						t.Errorf("%q", s)
					}
				}
				slices.Sort(names)
				if !slices.Equal(r.Objects(), names) {
					t.Error(r.Objects())
				}
				refs := []api.Ref{{Kind: api.Branch, Name: "main", Hash: other}, {Kind: api.Tag, Name: "v", Hash: one}}
				if a := r.Do(api.Call{Kind: api.CRefs}); !slices.Equal(a.Refs, refs) {
					t.Error(a)
				}
				if a := r.Do(api.Call{Kind: api.CStat}); !slices.Equal(a.Nums, []int{2, 2, 3}) {
					t.Error(a)
				}
				if a := r.Do(api.Call{Kind: api.CLog, Hash: other}); !slices.Equal(a.Log, []string{other, one}) {
					t.Error(a)
				}
				if !reflect.DeepEqual(d.Seize(), was) {
					t.Error("something is written")
				}
			}
		}
	}
}

// Where there is no record the log has nothing, whatever stands there, and the head tells the number.
func TestP41_1_OpenWithoutRecords(t *testing.T) {
	k := good(t)
	k.records = nil
	k.head.Num = 77
	r := opened(t, k.disk(t))
	if a := r.Do(api.Call{Kind: api.CStat}); !slices.Equal(a.Nums, []int{1, 0, 77}) {
		t.Error(a)
	}
	if _, records, tail := r.Head(); records != 0 || tail != 0 {
		t.Error(records, tail)
	}
	k.pack, k.head.Num = "", 1<<32
	r = opened(t, k.disk(t))
	if a := r.Do(api.Call{Kind: api.CStat}); !slices.Equal(a.Nums, []int{0, 0, 1 << 32}) || len(r.Objects()) != 0 {
		t.Error(a)
	}
}

// The later head counts, and its half; where it is spoiled, the other one.
func TestP41_1_TheHeadThatCounts(t *testing.T) {
	d := good(t).disk(t)
	k := good(t)
	k.head.Half, k.head.Epoch, k.head.Num, k.pack, k.records = 0, 5, 9, "", nil
	for i, s := range k.disk(t).Seize().Sectors {
		if i == 1 || i >= area.First(64, 0) && i < area.First(64, 1) {
			d.Over(i, s)
		}
	}
	if head, records, _ := opened(t, d).Head(); head.Epoch != 6 || records != 3 {
		t.Error(head, records)
	}
	d.Over(0, rubbish)
	if head, records, _ := opened(t, d).Head(); head.Epoch != 5 || records != 0 || head.Num != 9 {
		t.Error(head, records)
	}
	d.Over(1, rubbish)
	empty(t, "none", opened(t, d))
}

// spoiled is a text that is another one at a place.
func spoiled(s string, at int) string { return s[:at] + string(s[at]^1) + s[at+1:] }

// manyRefs is records of so many refs, all of which name one commit.
func manyRefs(count int, hash string) []api.Record {
	var l []api.Record
	for i := range count {
		l = append(l, api.Record{Kind: api.Branch, Name: fmt.Sprint("r", i), New: hash, Num: 2})
	}
	return l
}

func TestP41_1_Rot(t *testing.T) {
	first, more, one, other := two(t)
	for what, spoil := range map[string]func(k *kept){
		"the pack":                   func(k *kept) { k.pack = spoiled(k.pack, 10) },
		"the pack's last byte":       func(k *kept) { k.pack = spoiled(k.pack, len(k.pack)-1) },
		"a byte less of the pack":    func(k *kept) { k.head.Pack = len(k.pack) - 1 },
		"a byte more of the pack":    func(k *kept) { k.head.Pack = len(k.pack) + 1 },
		"a pack of one byte":         func(k *kept) { k.head.Pack = 1 },
		"no pack":                    func(k *kept) { k.pack = strings.Repeat("P", 500) },
		"an object of the pack":      func(k *kept) { s := k.pack[:len(k.pack)-4]; k.pack = crc.Seal(spoiled(s, len(s)-1)) },
		"an empty object":            func(k *kept) { k.pack = crc.Seal(emptyPack()) },
		"the log":                    func(k *kept) { k.log = spoiled(k.log, 3) },
		"the log's last byte":        func(k *kept) { k.log = spoiled(k.log, len(k.log)-1) },
		"a byte less of the log":     func(k *kept) { k.records[2].Tail-- },
		"a byte more of the log":     func(k *kept) { k.records[2].Tail++ },
		"a text twice in the log":    func(k *kept) { k.log += framed(t, more[0]); k.records[2].Tail = len(k.log) },
		"a text of the pack, too":    func(k *kept) { k.log += framed(t, first[0]); k.records[2].Tail = len(k.log) },
		"a ref twice":                func(k *kept) { k.records[2].Old = "" },
		"no ref":                     func(k *kept) { k.records[0].Name = "other" },
		"another one":                func(k *kept) { k.records[0].New, k.records[2].Old = one, other },
		"no ref to drop":             func(k *kept) { k.records[1].Old, k.records[1].New = one, "" },
		"a ref of no commit":         func(k *kept) { k.records[1].New = strings.Repeat("x", 32) },
		"a ref of a chunk":           func(k *kept) { k.records[1].New = sha.Sum(first[0]) },
		"a ref of a graph":           func(k *kept) { k.records[1].New = sha.Sum(first[slices.IndexFunc(first, isGraph)]) },
		"65 refs":                    func(k *kept) { k.n, k.records = 400, manyRefs(65, one) },
		"tails that fall":            func(k *kept) { k.records[1].Tail = len(k.log) + 1 },
		"numbers that fall":          func(k *kept) { k.records[1].Num = 4 },
		"a number below the head's":  func(k *kept) { k.head.Num = 3 },
		"a pack longer than a half":  func(k *kept) { k.head.Pack, k.records, k.log = 31*128+1, nil, "" },
		"a pack that takes a half":   func(k *kept) { k.head.Pack, k.records, k.log = 31*128, nil, "" },
		"a pack of all that may be":  func(k *kept) { k.head.Pack, k.records, k.log = 4096*128, nil, "" },
		"a pack up to the last one":  func(k *kept) { k.pack, k.records, k.log = longPack(t, 31*128-127), nil, "" },
		"a log that has no room":     func(k *kept) { k.records[2].Tail = 4096 * 128 },
		"a log up to the last one":   func(k *kept) { longLog(t, k, 28-area.Sectors(len(k.pack))) },
		"records up to the last one": func(k *kept) { k.n, k.pack, k.log, k.records = 130, "", framed(t, first...), fillRecords(t, one, 0) },
	} {
		k := good(t)
		spoil(&k)
		d := k.disk(t)
		was := d.Seize()
		r, e := Open(d)
		if r != nil || e != api.ErrRot {
			t.Error(what, r, e)
		}
		if !reflect.DeepEqual(d.Seize(), was) || d.Ops() > bound.Open(k.n) {
			t.Error(what, d.Ops())
		}
	}
}

// What stands a bit ahead of what may not be may be.
func TestP41_1_NoRot(t *testing.T) {
	first, more, one, _ := two(t)
	for what, turn := range map[string]func(k *kept){
		"as it is": func(k *kept) {},
		"64 refs":  func(k *kept) { k.n, k.records = 400, manyRefs(64, one) },
		"equal tails": func(k *kept) {
			k.records = append(k.records, api.Record{Kind: api.Branch, Name: "x", New: one, Tail: len(k.log), Num: 3})
		},
		"a great number":           func(k *kept) { k.records[2].Num = 1 << 32 },
		"a pack with room for one": func(k *kept) { k.pack, k.records, k.log = longPack(t, 30*128), nil, "" },
		"a log with room for one":  func(k *kept) { longLog(t, k, 27-area.Sectors(len(k.pack))) },
		"records with room for one": func(k *kept) {
			k.n, k.pack, k.log, k.records = 130, "", framed(t, first...), fillRecords(t, one, 1)
		},
		"no pack":              func(k *kept) { k.pack, k.log = "", framed(t, append(first, more...)...); tails(k) },
		"an object of no kind": func(k *kept) { k.log += framed(t, "what"); k.records[2].Tail = len(k.log) },
		"a record of another epoch": func(k *kept) {
			k.records = append(k.records, api.Record{Epoch: 5, Seq: 3, Kind: 1, Name: "x", New: one, Num: 1})
		},
		"a record of a later place": func(k *kept) {
			k.records = append(k.records, api.Record{Epoch: 6, Seq: 4, Kind: 1, Name: "x", New: one, Num: 1})
		},
		"a ref that named no commit":  func(k *kept) { k.records = append(wander(one), k.records[2]); k.records[2].Old = one },
		"a loose object behind a tag": func(k *kept) { k.records = k.records[:2]; k.records[1].Tail = len(k.log) },
	} {
		k := good(t)
		turn(&k)
		r, e := Open(k.disk(t))
		if r == nil || e != api.OK {
			t.Error(what, e)
		}
	}
}

// wander is records of main, which named what is no commit for a while.
func wander(one string) []api.Record {
	x := strings.Repeat("x", 32)
	return []api.Record{{Kind: api.Branch, Name: "main", New: x, Num: 2}, {Kind: api.Branch, Name: "main", Old: x, New: one, Num: 2}}
}

func isGraph(s string) bool { return s[0] == 'G' }

// tails has all records tell all of the log.
func tails(k *kept) {
	for i := range k.records {
		k.records[i].Tail = len(k.log)
	}
}

// emptyPack is the bytes, without their sum, of a pack of one object that is empty.
func emptyPack() string {
	name := sha.Sum("")
	s := "P\x01"
	for part := range 16 {
		s += string(rune(min(1, max(0, part-int(name[0]>>4)+1))))
	}
	return s + name + "\x00\x00\x00"
}

// longPack is a pack of so many bytes.
func longPack(t *testing.T, size int) string {
	t.Helper()
	for n := size; n > 0; n-- { // of a text in which nothing comes twice
		var b strings.Builder
		for i := 0; b.Len() < n; i++ {
			b.WriteString(sha.Sum(fmt.Sprint(i)))
		}
		if s := packed(t, "x"+b.String()[:n]); len(s) == size {
			return s
		}
	}
	t.Fatal(size)
	return ""
}

// longLog has a log take so many sectors.
func longLog(t *testing.T, k *kept, sectors int) {
	t.Helper()
	left := sectors*128 - len(k.log)
	for n := left; n > 0; n-- {
		if text := strings.Repeat("x", n); frame.Size(text) == left {
			k.log += framed(t, text)
			k.records[2].Tail = len(k.log)
			return
		}
	}
	t.Fatal(sectors)
}

// fillRecords is records, by which a branch comes and goes, that leave so many sectors of 64 behind a log of the first commit.
func fillRecords(t *testing.T, hash string, left int) []api.Record {
	t.Helper()
	first, _, _, _ := two(t)
	tail := len(framed(t, first...))
	var l []api.Record
	for i := range 64 - area.Sectors(tail) - left {
		x := api.Record{Kind: api.Branch, Name: "x", New: hash, Tail: tail, Num: 2}
		if i%2 == 1 {
			x.Old, x.New = x.New, ""
		}
		l = append(l, x)
	}
	return l
}

func TestP41_1_TheDisksError(t *testing.T) {
	d := good(t).disk(t)
	d.Crash()
	if r, e := Open(d); r != nil || e != api.ErrDown {
		t.Error(r, e)
	}
	d.Boot()
	opened(t, d)
}
