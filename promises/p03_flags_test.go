package promises

import (
	"math"
	"slices"
	"sort"
	"testing"

	"fretwork/api"
	"fretwork/flags"
)

// bitsOf is a set's words, told place by place.
func bitsOf(words int, l []int) []uint64 {
	f := make([]uint64, words)
	for _, at := range l {
		f[at/64] |= 1 << (at % 64)
	}
	return f
}

// placesOf is the way back.
func placesOf(f []uint64) []int {
	var l []int
	for at := 0; at < 64*len(f); at++ {
		if f[at/64]>>(at%64)&1 == 1 {
			l = append(l, at)
		}
	}
	return l
}

func wordsOf(n int) int {
	switch {
	case n < 1:
		return 0
	case n > 4096:
		return 64
	}
	return (n + 63) / 64
}

// set is a set of up to so many words, of whatever bits.
func (d *dice) set(words int) []uint64 {
	f := make([]uint64, d.below(words+1))
	for i := range f {
		switch d.below(5) {
		case 0:
		case 1:
			f[i] = math.MaxUint64
		case 2:
			f[i] = 1 << d.below(64)
		default:
			f[i] = d.word() & d.word()
		}
	}
	return f
}

func init() { maker(func(d *dice) []uint64 { return d.set(3) }) }

var setSizes = []int{math.MinInt, -64, -1, 0, 1, 2, 63, 64, 65, 70, 127, 128, 129, 4032, 4033, 4095, 4096, 4097, 5000, math.MaxInt}

func TestP3_1(t *testing.T) {
	d := &dice{}
	for _, n := range setSizes {
		want(t, "New", flags.New(n), make([]uint64, wordsOf(n)))
		for i := 0; i < 20; i++ {
			var l, in []int
			for len(l) < d.below(9) {
				at := int(d.odd())
				if n > 0 && d.coin() {
					at = d.below(min(n, 4200)+2) - 1
				}
				l = append(l, at)
				if at >= 0 && at < n && at < 4096 {
					in = append(in, at)
				}
			}
			want(t, "Of", flags.Of(n, l...), bitsOf(wordsOf(n), in))
		}
		for i := 0; i < 100; i++ {
			f := d.set(3)
			right := n >= 0 && n <= api.MaxVerts && len(f) == wordsOf(n)
			for _, at := range placesOf(f) {
				right = right && at < n
			}
			want(t, "Right", flags.Right(f, n), right)
		}
	}
	for _, n := range []int{0, 1, 5, 63, 64, 65, 4096} {
		f := flags.New(n)
		for at := 0; at < n; at++ {
			f[at/64] |= 1 << (at % 64)
		}
		want(t, "Right of all", flags.Right(f, n), true)
		want(t, "Right with a word more", flags.Right(append(f, 0), n), false)
		if n%64 != 0 {
			f[n/64] |= 1 << (n % 64)
			want(t, "Right with a place more", flags.Right(f, n), false)
		}
	}
	want(t, "Right of too many", flags.Right(make([]uint64, 65), 4097), false)
	want(t, "Right of 64 words for too many", flags.Right(make([]uint64, 64), 4097), false)
	want(t, "Right below 0", flags.Right(nil, -1), false)
	for i := 0; i < 200; i++ {
		f := d.set(3)
		for _, at := range []int{math.MinInt, -64, -1, 0, 1, 63, 64, 65, 127, 128, 191, 192, 193, 4096, math.MaxInt} {
			want(t, "Has", flags.Has(f, at), slices.Contains(placesOf(f), at))
		}
	}
}

func TestP3_2(t *testing.T) {
	d := &dice{state: 2}
	for i := 0; i < 300; i++ {
		f := d.set(3)
		l := placesOf(f)
		want(t, "Count", flags.Count(f), len(l))
		want(t, "List", flags.List(f), l)
		for _, at := range []int{math.MinInt, -65, -64, -1, 0, 1, d.below(192), 63, 64, 65, 127, 128, 191, 192, 193, math.MaxInt} {
			with, without := slices.Clone(f), slices.Clone(f)
			if at >= 0 && at < 64*len(f) {
				with[at/64] |= 1 << (at % 64)
				without[at/64] &^= 1 << (at % 64)
			}
			want(t, "Put", flags.Put(f, at), with)
			want(t, "Drop", flags.Drop(f, at), without)
			rank := 0
			next := -1
			for _, p := range l {
				if p < at {
					rank++
				} else if next < 0 {
					next = p
				}
			}
			want(t, "Rank", flags.Rank(f, at), rank)
			want(t, "Next", flags.Next(f, at), next)
		}
	}
	f := bitsOf(4, []int{0, 1, 62, 63, 64, 126, 127, 128, 191, 193})
	for at, next, rank := 255, -1, 10; at >= 0; at-- {
		if f[at/64]>>(at%64)&1 == 1 {
			next, rank = at, rank-1
		}
		want(t, "Next", flags.Next(f, at), next)
		want(t, "Rank", flags.Rank(f, at), rank)
	}
	want(t, "5 and 64", flags.Next(flags.Of(70, 5, 64), 6), 64)
}

func TestP3_3(t *testing.T) {
	d := &dice{state: 3}
	for i := 0; i < 300; i++ {
		a, b := d.set(3), d.set(3)
		inA, inB := map[int]bool{}, map[int]bool{}
		var either, both, minus []int
		for _, at := range placesOf(a) {
			inA[at] = true
		}
		for _, at := range placesOf(b) {
			inB[at] = true
		}
		for at := 0; at < 192; at++ {
			if inA[at] || inB[at] {
				either = append(either, at)
			}
			if inA[at] && inB[at] {
				both = append(both, at)
			}
			if inA[at] && !inB[at] {
				minus = append(minus, at)
			}
		}
		want(t, "Union", flags.Union(a, b), bitsOf(max(len(a), len(b)), either))
		want(t, "Both", flags.Both(a, b), bitsOf(len(a), both))
		want(t, "Minus", flags.Minus(a, b), bitsOf(len(a), minus))
		for _, n := range setSizes {
			var others []int
			for at := 0; at < min(n, 4096); at++ {
				if !inA[at] {
					others = append(others, at)
				}
			}
			want(t, "Flip", flags.Flip(a, n), bitsOf(wordsOf(n), others))
		}
		for k := 0; k < 30; k++ {
			from, to := int(d.odd()), int(d.odd())
			if d.below(3) > 0 {
				from, to = d.below(200)-4, d.below(200)
			}
			low := max(from, 0)
			var l []int
			words := 0
			if to > low {
				words = wordsOf(to - low)
				for at := range inA {
					if at >= low && at < to {
						l = append(l, at-low)
					}
				}
			}
			want(t, "Part", flags.Part(a, from, to), bitsOf(words, l))
		}
	}
	long := make([]uint64, 100)
	for i := range long {
		long[i] = math.MaxUint64
	}
	want(t, "a long part", flags.Part(long, 10, 6000), long[:64])
	want(t, "all of a long set", flags.Count(flags.Flip(long[:3], 4096)), 4096-192)
}

func TestP3_4(t *testing.T) {
	d := &dice{state: 4}
	for i := 0; i < 300; i++ {
		f := d.set(5)
		l := flags.List(f)
		want(t, "Count", flags.Count(f), len(l))
		want(t, "List rises", sort.IntsAreSorted(l), true)
		for i, at := range l {
			want(t, "Rank", flags.Rank(f, at), i)
			want(t, "Has", flags.Has(f, at), true)
		}
	}
}

func TestP3_5(t *testing.T) {
	d := &dice{state: 5}
	for i := 0; i < 300; i++ {
		a := d.set(4)
		b := flags.Part(d.set(4), 0, 64*len(a))
		want(t, "Union from both sides", flags.Union(a, b), flags.Union(b, a))
		want(t, "Both from both sides", flags.Both(a, b), flags.Both(b, a))
		want(t, "Minus and Both", flags.Union(flags.Minus(a, b), flags.Both(a, b)), a)
		n := d.below(64*4 + 1)
		f := flags.Part(a, 0, n)
		want(t, "Flip of Flip", flags.Flip(flags.Flip(f, n), n), f)
	}
}

func TestP3_6(t *testing.T) {
	d := &dice{state: 6}
	for i := 0; i < 300; i++ {
		f := d.set(4)
		n := 64 * len(f)
		cut, end := d.below(n+1), n
		var l []int
		for _, at := range flags.List(flags.Part(f, 0, cut)) {
			l = append(l, at)
		}
		for _, at := range flags.List(flags.Part(f, cut, end)) {
			l = append(l, cut+at)
		}
		want(t, "parts", flags.Of(n, l...), f)
	}
}

func TestFlagsWhatever(t *testing.T) {
	whatever(t, 300, face{"flags.New", flags.New, false}, face{"flags.Of", flags.Of, false}, face{"flags.Right", flags.Right, false},
		face{"flags.Has", flags.Has, false}, face{"flags.Put", flags.Put, false}, face{"flags.Drop", flags.Drop, false},
		face{"flags.Count", flags.Count, false}, face{"flags.Rank", flags.Rank, false}, face{"flags.Next", flags.Next, false},
		face{"flags.List", flags.List, false}, face{"flags.Union", flags.Union, false}, face{"flags.Both", flags.Both, false},
		face{"flags.Minus", flags.Minus, false}, face{"flags.Flip", flags.Flip, false}, face{"flags.Part", flags.Part, false})
}
