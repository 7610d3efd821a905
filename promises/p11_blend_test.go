package promises

import (
	"math"
	"testing"

	"fretwork/api"
	"fretwork/blend"
	"fretwork/flags"
	"fretwork/ring"
	"fretwork/wide"
)

// inVec is a vector's values by their places.
func inVec(v api.Vec) map[int]int64 {
	in := map[int]int64{}
	for _, x := range v.Items {
		in[x.At] = x.Val
	}
	return in
}

// vecOf is the vector of values by their places.
func vecOf(n int, in map[int]int64) api.Vec {
	v := api.Vec{N: n}
	for at := range n {
		if val, is := in[at]; is {
			v.Items = append(v.Items, api.Item{At: at, Val: val})
		}
	}
	return v
}

func TestP11_1(t *testing.T) {
	d := &dice{}
	for i := 0; i < 800; i++ {
		n := d.below(9)
		a, b := d.vec(api.PlusTimes, n), d.vec(api.PlusTimes, n)
		inA, inB := inVec(a), inVec(b)
		for _, r := range allRings {
			union, meet := map[int]int64{}, map[int]int64{}
			var overU, overM api.Errno
			for at := range n {
				x, isA := inA[at]
				y, isB := inB[at]
				switch {
				case isA && isB:
					sum, ok := wide.Narrow(sumOf(r, wide.Of(x), wide.Of(y)))
					if union[at] = sum; !ok {
						overU = api.ErrOver
					}
					product, ok := wide.Narrow(timesOf(r, x, y))
					if meet[at] = product; !ok {
						overM = api.ErrOver
					}
				case isA:
					union[at] = x
				case isB:
					union[at] = y
				}
			}
			rightU, rightM := vecOf(n, union), vecOf(n, meet)
			if overU != api.OK {
				rightU = api.Vec{}
			}
			if overM != api.OK {
				rightM = api.Vec{}
			}
			got, e := blend.Union(r, a, b)
			want(t, "Union", got, rightU)
			want(t, "Union's error", e, overU)
			got, e = blend.Meet(r, a, b)
			want(t, "Meet", got, rightM)
			want(t, "Meet's error", e, overM)
		}
	}
	great := api.Vec{N: 1, Items: []api.Item{{Val: math.MaxInt64}}}
	for _, c := range []struct {
		r        api.Ring
		a, b     api.Vec
		eU, eM   api.Errno
		whatever string
	}{
		{0, api.Vec{N: 1}, api.Vec{N: 2}, api.ErrKind, api.ErrKind, "no ring"}, {6, api.Vec{}, api.Vec{}, api.ErrKind, api.ErrKind, "no ring"},
		{5, api.Vec{N: 1}, api.Vec{N: 2}, api.ErrSize, api.ErrSize, "sizes"}, {5, great, api.Vec{}, api.ErrSize, api.ErrSize, "sizes"}, {5, great, great, api.ErrOver, api.ErrOver, "over"},
		{5, great, badVecs()[0], api.ErrSize, api.ErrSize, "what can't be"}, {5, api.Vec{}, badVecs()[5], api.OK, api.OK, "what can't be"}, {1, great, great, api.OK, api.OK, "by the least"},
	} {
		_, eU := blend.Union(c.r, c.a, c.b)
		_, eM := blend.Meet(c.r, c.a, c.b)
		want(t, "Union's error: "+c.whatever, eU, c.eU)
		want(t, "Meet's error: "+c.whatever, eM, c.eM)
	}
	got, _ := blend.Union(api.OrAnd, api.Vec{N: 2, Items: []api.Item{{Val: 7}}}, api.Vec{N: 2, Items: []api.Item{{At: 1, Val: 0}}})
	want(t, "lone ones stay", got, api.Vec{N: 2, Items: []api.Item{{Val: 7}, {At: 1}}})
	got, _ = blend.Meet(api.MinFirst, api.Vec{N: 1, Items: []api.Item{{Val: 3}}}, api.Vec{N: 1, Items: []api.Item{{Val: 9}}})
	want(t, "a's and b's", got, api.Vec{N: 1, Items: []api.Item{{Val: 3}}})
	got, _ = blend.Union(api.MinPlus, api.Vec{N: 2, Items: []api.Item{{At: 1, Val: 5}}}, api.Vec{N: 2, Items: []api.Item{{At: 1, Val: 3}}})
	want(t, "5 and 3", got, api.Vec{N: 2, Items: []api.Item{{At: 1, Val: 3}}})
}

func TestP11_2(t *testing.T) {
	d := &dice{state: 2}
	for i := 0; i < 1500; i++ {
		n := d.places()
		a, b := d.vec(api.MinPlus, n), d.vec(api.MinPlus, n)
		if d.coin() {
			b = d.vec(api.PlusTimes, n)
		}
		inA, inB := inVec(a), inVec(b)
		f := d.set(3)
		mask, rest, over, better := map[int]int64{}, map[int]int64{}, map[int]int64{}, map[int]int64{}
		for at := range n {
			x, isA := inA[at]
			y, isB := inB[at]
			if isA && flags.Has(f, at) {
				mask[at] = x
			} else if isA {
				rest[at] = x
			}
			if isB {
				over[at] = y
			} else if isA {
				over[at] = x
			}
			if isA && (!isB || y > x) {
				better[at] = x
			}
		}
		want(t, "Mask", blend.Mask(a, f, false), vecOf(n, mask))
		want(t, "Mask of others", blend.Mask(a, f, true), vecOf(n, rest))
		got, e := blend.Over(a, b)
		want(t, "Over", got, vecOf(n, over))
		want(t, "its error", e, api.OK)
		got, e = blend.Better(a, b)
		want(t, "Better", got, vecOf(n, better))
		want(t, "its error", e, api.OK)
	}
	one := api.Vec{N: 1, Items: []api.Item{{Val: 4}}}
	for _, v := range badVecs() {
		want(t, "Mask of what can't be", blend.Mask(v, nil, true), api.Vec{})
		for _, f := range []func(a, b api.Vec) (api.Vec, api.Errno){blend.Over, blend.Better} {
			got, e := f(v, one)
			want(t, "of sizes that do not fit", e, api.ErrSize)
			want(t, "nothing beside it", got, api.Vec{})
			got, e = f(one, v)
			want(t, "of sizes that do not fit", e, api.ErrSize)
			want(t, "nothing beside it", got, api.Vec{})
			_, e = f(v, v)
			want(t, "of what can't be", e, api.OK)
		}
	}
	got, _ := blend.Better(one, one)
	want(t, "none is better than itself", got, api.Vec{N: 1})
}

func TestP11_3(t *testing.T) {
	d := &dice{state: 3}
	for i := 0; i < 500; i++ {
		for _, r := range allRings {
			n := d.below(9)
			a, b, c := d.vec(r, n), d.vec(r, n), d.vec(r, n)
			ab, e := blend.Union(r, a, b)
			ba, f := blend.Union(r, b, a)
			want(t, "from both sides", ab, ba)
			want(t, "from both sides", e, f)
			bc, g := blend.Union(r, b, c)
			x, h := blend.Union(r, ab, c)
			y, k := blend.Union(r, a, bc)
			if e == api.OK && g == api.OK && h == api.OK && k == api.OK {
				want(t, "in any order", x, y)
			}
			if takesLeast(r) {
				same, _ := blend.Union(r, a, a)
				want(t, "a vector and itself", same, a)
			}
		}
	}
}

func TestP11_4(t *testing.T) {
	d := &dice{state: 4}
	for i := 0; i < 500; i++ {
		n := d.places()
		v, f, g := d.vec(api.PlusTimes, n), d.set(3), d.set(3)
		in, others := blend.Mask(v, f, false), blend.Mask(v, f, true)
		both, e := blend.Union(api.PlusTimes, in, others)
		want(t, "what there is", both, v)
		want(t, "what there is", e, api.OK)
		want(t, "each once", len(in.Items)+len(others.Items), len(v.Items))
		want(t, "Mask twice", blend.Mask(in, g, false), blend.Mask(v, flags.Both(f, g), false))
	}
}

func TestP11_5(t *testing.T) {
	d := &dice{state: 5}
	for i := 0; i < 500; i++ {
		n := d.below(9)
		a, b := d.vec(api.MinPlus, n), d.vec(api.MinPlus, n)
		better, _ := blend.Better(a, b)
		put, _ := blend.Union(api.MinPlus, b, better)
		union, _ := blend.Union(api.MinPlus, a, b)
		want(t, "what is better, put to b", put, union)
		for _, x := range better.Items {
			val, is := inVec(b)[x.At]
			want(t, "each changes b", !is || ring.Add(api.MinPlus, wide.Of(val), wide.Of(x.Val)) != wide.Of(val), true)
		}
	}
}

func TestP11_6(t *testing.T) {
	d := &dice{state: 6}
	for i := 0; i < 500; i++ {
		n := d.below(9)
		a, b, c := d.vec(api.PlusTimes, n), d.vec(api.PlusTimes, n), d.vec(api.PlusTimes, n)
		same, _ := blend.Over(a, a)
		want(t, "Over of itself", same, a)
		ab, _ := blend.Over(a, b)
		bc, _ := blend.Over(b, c)
		x, _ := blend.Over(ab, c)
		y, _ := blend.Over(a, bc)
		want(t, "Over goes on", x, y)
	}
}

func TestBlendWhatever(t *testing.T) {
	whatever(t, 600, face{"blend.Union", blend.Union, false}, face{"blend.Meet", blend.Meet, false}, face{"blend.Mask", blend.Mask, false},
		face{"blend.Over", blend.Over, false}, face{"blend.Better", blend.Better, false})
}
