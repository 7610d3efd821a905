package promises

import (
	"math"
	"testing"

	"fretwork/api"
	"fretwork/blend"
	"fretwork/fold"
	"fretwork/ring"
	"fretwork/spvec"
	"fretwork/wide"
)

var allTests = []api.Test{api.Less, api.More, api.Like, api.Unlike}

func init() { maker(func(d *dice) api.Test { return api.Test(d.below(5)) }) }

func TestP12_1(t *testing.T) {
	d := &dice{}
	for i := 0; i < 1000; i++ {
		for _, r := range allRings {
			v := d.vec(api.PlusTimes, d.below(9))
			if i%2 == 0 {
				v = d.vec(r, d.below(9))
			}
			right, e := ring.Zero(r), api.OK
			if len(v.Items) > 0 {
				var l []int64
				for _, x := range v.Items {
					l = append(l, x.Val)
				}
				sum := sumAll(r, l)
				if right = sum.Int64(); !sum.IsInt64() {
					right, e = 0, api.ErrOver
				}
			}
			got, ge := fold.Reduce(r, v)
			want(t, "Reduce", got, right)
			want(t, "its error", ge, e)
		}
	}
	for _, r := range noRings {
		got, e := fold.Reduce(r, api.Vec{N: 1, Items: []api.Item{{Val: 4}}})
		want(t, "Reduce by no ring", got, 0)
		want(t, "its error", e, api.ErrKind)
	}
	sum, e := fold.Reduce(api.PlusTimes, api.Vec{N: 3, Items: []api.Item{{At: 0, Val: math.MaxInt64}, {At: 1, Val: 5}, {At: 2, Val: -6}}})
	want(t, "a sum that is over on the way", sum, math.MaxInt64-1)
	want(t, "its error", e, api.OK)
	sum, _ = fold.Reduce(api.OrAnd, api.Vec{N: 3, Items: []api.Item{{At: 1, Val: 7}}})
	want(t, "a lone one stays", sum, 7)
	for _, v := range badVecs() {
		got, e := fold.Reduce(api.MinPlus, v)
		want(t, "Reduce of what can't be", got, api.Inf)
		want(t, "its error", e, api.OK)
	}
	for _, a := range oddNumbers {
		for _, k := range oddNumbers {
			want(t, "Less", fold.Holds(api.Less, a, k), a < k)
			want(t, "More", fold.Holds(api.More, a, k), a > k)
			want(t, "Like", fold.Holds(api.Like, a, k), a == k)
			want(t, "Unlike", fold.Holds(api.Unlike, a, k), a != k)
			for _, none := range []api.Test{api.NoTest, -1, 5, math.MaxInt} {
				want(t, "no test", fold.Holds(none, a, k), false)
			}
		}
	}
	for i := 0; i < 500; i++ {
		v, k := d.vec(api.PlusTimes, d.below(9)), d.small()
		for _, test := range append([]api.Test{0, 5}, allTests...) {
			in := map[int]int64{}
			for _, x := range v.Items {
				if fold.Holds(test, x.Val, k) {
					in[x.At] = x.Val
				}
			}
			want(t, "Where", fold.Where(v, test, k), vecOf(v.N, in))
		}
	}
	for _, v := range badVecs() {
		want(t, "Where of what can't be", fold.Where(v, api.Unlike, 99), api.Vec{})
	}
}

func TestP12_2(t *testing.T) {
	d := &dice{state: 2}
	for i := 0; i < 1500; i++ {
		n := d.between(1, 8)
		v := d.vec(api.PlusTimes, n)
		var at []int
		for k := d.below(9); k > 0; k-- {
			at = append(at, d.below(n))
		}
		x := d.vec(api.PlusTimes, len(at))
		in, from := inVec(v), inVec(x)
		picked, after := map[int]int64{}, inVec(v)
		for i, place := range at {
			if val, is := in[place]; is {
				picked[i] = val
			}
			if val, is := from[i]; is {
				after[place] = val
			} else {
				delete(after, place)
			}
		}
		got, e := fold.Select(v, at)
		want(t, "Select", got, vecOf(len(at), picked))
		want(t, "its error", e, api.OK)
		got, e = fold.Assign(v, at, x)
		want(t, "Assign", got, vecOf(n, after))
		want(t, "its error", e, api.OK)
		var least api.Item
		for i, y := range v.Items {
			if i == 0 || y.Val < least.Val {
				least = y
			}
		}
		y, ok := fold.Least(v)
		want(t, "Least", y, least)
		want(t, "whether there is one", ok, len(v.Items) > 0)
	}
	v := spvec.Fill(3, 5)
	zeros := make([]int, 4097)
	bad := append([]int{7}, zeros...)
	for _, c := range []struct {
		at []int
		e  api.Errno
	}{{bad, api.ErrLong}, {zeros, api.ErrLong}, {zeros[1:], api.OK}, {[]int{0, 3}, api.ErrRange}, {[]int{-1}, api.ErrRange}, {[]int{math.MaxInt}, api.ErrRange}, {nil, api.OK}, {[]int{2, 2}, api.OK}} {
		_, e := fold.Select(v, c.at)
		want(t, "Select's error", e, c.e)
		x := api.Vec{N: len(c.at)}
		if c.e == api.ErrLong {
			x = api.Vec{N: 4096}
			c.e = api.ErrSize
		}
		_, e = fold.Assign(v, c.at, x)
		want(t, "Assign's error", e, c.e)
		_, e = fold.Assign(v, c.at, api.Vec{N: x.N + 1})
		want(t, "Assign of another size", e, api.ErrSize)
	}
	_, e := fold.Assign(v, []int{9}, api.Vec{})
	want(t, "a size ahead of a place", e, api.ErrSize)
	_, e = fold.Assign(v, []int{0, 1}, api.Vec{N: 2, Items: []api.Item{{At: 2}}})
	want(t, "of what can't be", e, api.ErrSize)
	for _, b := range badVecs() {
		_, e = fold.Select(b, []int{0})
		want(t, "Select of what can't be", e, api.ErrRange)
		_, e = fold.Assign(b, []int{0}, api.Vec{N: 1})
		want(t, "Assign of what can't be", e, api.ErrRange)
		x, ok := fold.Least(b)
		want(t, "Least of what can't be", x, api.Item{})
		want(t, "Least of what can't be", ok, false)
	}
}

func TestP12_3(t *testing.T) {
	d := &dice{state: 3}
	for i := 0; i < 500; i++ {
		for _, r := range allRings {
			a, b := d.vec(r, d.below(6)), d.vec(r, d.below(6))
			x, e := fold.Reduce(r, a)
			y, f := fold.Reduce(r, b)
			glued, _ := spvec.Glue(a, b)
			all, g := fold.Reduce(r, glued)
			if e == api.OK && f == api.OK && g == api.OK {
				want(t, "the sum of both", wide.Of(all), ring.Add(r, wide.Of(x), wide.Of(y)))
			}
		}
	}
	sum, _ := fold.Reduce(api.PlusTimes, api.Vec{N: 2, Items: []api.Item{{At: 0, Val: 3}, {At: 1, Val: 4}}})
	want(t, "3 and 4", sum, 7)
}

func TestP12_4(t *testing.T) {
	d := &dice{state: 4}
	for i := 0; i < 500; i++ {
		v, k := d.vec(api.PlusTimes, d.below(9)), d.small()
		if len(v.Items) > 0 && d.coin() {
			k = v.Items[d.below(len(v.Items))].Val
		}
		var parts [5]api.Vec
		for _, test := range allTests {
			parts[test] = fold.Where(v, test, k)
		}
		two, _ := blend.Union(api.MinPlus, parts[api.Less], parts[api.More])
		all, _ := blend.Union(api.MinPlus, two, parts[api.Like])
		want(t, "what there is", all, v)
		want(t, "each once", len(parts[api.Less].Items)+len(parts[api.More].Items)+len(parts[api.Like].Items), len(v.Items))
		want(t, "Unlike", parts[api.Unlike], two)
	}
}

func TestP12_5(t *testing.T) {
	d := &dice{state: 5}
	for i := 0; i < 500; i++ {
		n := d.between(1, 8)
		v := d.vec(api.PlusTimes, n)
		at := make([]int, n)
		for k := range at {
			at[k] = k
			o := d.below(k + 1)
			at[k], at[o] = at[o], at[k]
		}
		at = at[:d.below(n+1)]
		x := d.vec(api.PlusTimes, len(at))
		put, _ := fold.Assign(v, at, x)
		got, _ := fold.Select(put, at)
		want(t, "Select of Assign", got, x)
		own, _ := fold.Select(v, at)
		got, _ = fold.Assign(v, at, own)
		want(t, "Assign of Select", got, v)
	}
}

func TestP12_6(t *testing.T) {
	d := &dice{state: 6}
	for i := 0; i < 500; i++ {
		v := d.vec(api.PlusTimes, d.below(9))
		x, ok := fold.Least(v)
		least, _ := fold.Reduce(api.MinPlus, v)
		if ok {
			want(t, "Least", x.Val, least)
		} else {
			want(t, "Zero", least, api.Inf)
		}
	}
}

func TestFoldWhatever(t *testing.T) {
	whatever(t, 600, face{"fold.Reduce", fold.Reduce, false}, face{"fold.Holds", fold.Holds, false}, face{"fold.Where", fold.Where, false},
		face{"fold.Select", fold.Select, false}, face{"fold.Assign", fold.Assign, false}, face{"fold.Least", fold.Least, false})
}
