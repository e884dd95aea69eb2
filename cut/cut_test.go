package cut

import (
	"math"
	"slices"
	"strconv"
	"testing"

	"pleach/api"
	"pleach/roll"
)

// levels are such as trees have, and others.
func levels() []int { return []int{0, 1, 2, 39, 40, 41, 255, 256, -1, math.MaxInt, math.MinInt} }

// row is so many keys.
func row(n int) []string {
	var l []string
	for i := range n {
		l = append(l, "key"+strconv.Itoa(i*i))
	}
	return l
}

// which is so many keys that hit at a level, or that don't.
func which(n, level int, hits bool) []string {
	var l []string
	for i := 0; len(l) < n; i++ {
		if key := strconv.Itoa(i); roll.Hits(level, key) == hits {
			l = append(l, key)
		}
	}
	return l
}

// byHand is the sizes of the chunks that the words of P18.1 tell, the last one's too.
func byHand(level int, keys []string) []int {
	var l []int
	size := 0
	for _, key := range keys {
		size++
		if size == 8 || size > 1 && roll.Hits(level, key) {
			l = append(l, size)
			size = 0
		}
	}
	if size > 0 {
		l = append(l, size)
	}
	return l
}

// sums are how many keys stand up to the end of each chunk.
func sums(sizes []int) []int {
	var l []int
	n := 0
	for _, size := range sizes {
		n += size
		l = append(l, n)
	}
	return l
}

func TestP18_1_Next(t *testing.T) {
	for _, level := range levels() {
		c := New(level)
		size := 0
		if c.Size() != 0 {
			t.Error(level, c.Size())
		}
		for i, key := range row(2000) {
			size++
			want := size == api.MaxChunk || size >= api.MinChunk && roll.Hits(level, key)
			if got := c.Next(key); got != want {
				t.Errorf("level %d, key %d: %v", level, i, got)
			}
			if want {
				size = 0
			}
			if c.Size() != size {
				t.Errorf("level %d, key %d: %d, want %d", level, i, c.Size(), size)
			}
		}
	}
}

func TestP18_1_TheSecondAtLeast(t *testing.T) {
	for _, level := range levels() {
		c := New(level)
		for i, key := range which(20, level, true) {
			if got := c.Next(key); got != (i%2 == 1) || c.Size() != (i+1)%2 {
				t.Error(level, i, got, c.Size())
			}
		}
	}
}

func TestP18_1_TheEighthAtMost(t *testing.T) {
	for _, level := range levels() {
		c := New(level)
		for i, key := range which(40, level, false) {
			if got := c.Next(key); got != (i%8 == 7) || c.Size() != (i+1)%8 {
				t.Error(level, i, got, c.Size())
			}
		}
	}
}

func TestP18_1_KeysOfAnyKind(t *testing.T) {
	c := New(0) // they need not rise, and may be empty
	for range 7 {
		if want := roll.Hits(0, "") && c.Size() > 0; c.Next("") != want {
			t.Error(c.Size())
		}
	}
}

func TestP18_1_NoCutter(t *testing.T) {
	for _, c := range []*Cutter{nil, {}} {
		for _, key := range which(20, 0, true) {
			if c.Next(key) || c.Size() != 0 {
				t.Error(key, c.Size())
			}
		}
	}
}

func TestP18_1_CuttersAreApart(t *testing.T) {
	a, b := New(0), New(0)
	for range 3 {
		a.Next(which(1, 0, false)[0])
	}
	if a.Size() != 3 || b.Size() != 0 {
		t.Error(a.Size(), b.Size())
	}
}

func TestP18_2_OfNone(t *testing.T) {
	for _, level := range levels() {
		if l := Ends(level); l != nil {
			t.Error(level, l)
		}
		if l := Sizes(level, []string{}...); l != nil {
			t.Error(level, l)
		}
		if !Same(level, 0) || Same(level, 1) || Same(level, -1) {
			t.Error(level)
		}
	}
}

func TestP18_2_EndsAndSizes(t *testing.T) {
	for _, level := range levels() {
		for n := range 200 {
			keys := row(n)
			want := byHand(level, keys)
			if got := Sizes(level, keys...); !slices.Equal(got, want) {
				t.Error(level, n, got, want)
			}
			if got := Ends(level, keys...); !slices.Equal(got, sums(want)) {
				t.Error(level, n, got, sums(want))
			}
			if !slices.Equal(keys, row(n)) {
				t.Error(level, n, "the keys have changed")
			}
		}
	}
}

func TestP18_2_TheLastOneEndsWithTheRow(t *testing.T) {
	no, yes := which(20, 3, false), which(20, 3, true)
	for _, c := range []struct {
		keys []string
		want []int
	}{
		{no[:1], []int{1}},
		{yes[:1], []int{1}},
		{no[:7], []int{7}},
		{no[:8], []int{8}},
		{no[:9], []int{8, 9}},
		{no[:16], []int{8, 16}},
		{yes[:2], []int{2}},
		{yes[:5], []int{2, 4, 5}},
		{append(no[:7:7], yes[:3]...), []int{8, 10}},
		{append(no[:8:8], yes[:3]...), []int{8, 10, 11}},
		{append(no[:2:2], yes[0], no[3]), []int{3, 4}},
	} {
		if got := Ends(3, c.keys...); !slices.Equal(got, c.want) {
			t.Error(c.keys, got, c.want)
		}
	}
}

func TestP18_2_Same(t *testing.T) {
	for _, level := range levels() {
		for _, n := range []int{0, 1, 2, 9, 60} {
			keys := row(n)
			ends := sums(byHand(level, keys))
			for at := -3; at < n+3; at++ {
				if got, want := Same(level, at, keys...), at == 0 || slices.Contains(ends, at); got != want {
					t.Error(level, n, at, got)
				}
			}
			for _, at := range []int{math.MinInt, math.MaxInt, -n} {
				if at != 0 && Same(level, at, keys...) {
					t.Error(level, n, at)
				}
			}
		}
	}
}

func TestP18_3_WhatIsLeftIsCutAlone(t *testing.T) {
	for _, level := range levels() {
		keys := row(150)
		ends := Ends(level, keys...)
		for i, end := range ends {
			var want []int
			for _, e := range ends[i+1:] {
				want = append(want, e-end)
			}
			if got := Ends(level, keys[end:]...); !slices.Equal(got, want) {
				t.Error(level, end, got, want)
			}
			if got := Ends(level, keys[:end]...); !slices.Equal(got, ends[:i+1]) {
				t.Error(level, end, got, ends[:i+1])
			}
		}
	}
}

func TestP18_3_TwoToEight(t *testing.T) {
	for level := range 41 {
		met := [9]int{}
		sizes := Sizes(level, row(3000)...)
		for i, n := range sizes {
			if n > 8 || n < 1 || n < 2 && i < len(sizes)-1 {
				t.Fatal(level, i, n)
			}
			met[n]++
		}
		for n := 2; n <= 8; n++ {
			if met[n] == 0 {
				t.Error(level, n, "of no chunk")
			}
		}
	}
}
