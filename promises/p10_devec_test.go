package promises

import (
	"math"
	"testing"

	"fretwork/api"
	"fretwork/devec"
	"fretwork/flags"
	"fretwork/spvec"
)

// denseOf is a sparse vector as a dense one, by other means.
func denseOf(v api.Vec) api.Dense {
	d := api.Dense{N: v.N, Has: make([]uint64, wordsOf(v.N)), Vals: make([]int64, v.N)}
	for _, x := range v.Items {
		d.Has[x.At/64] |= 1 << (x.At % 64)
		d.Vals[x.At] = x.Val
	}
	return d
}

// places is how many places a vector has: often few, now and then more than a word's.
func (d *dice) places() int {
	if d.below(4) == 0 {
		return []int{62, 63, 64, 65, 66, 127, 128, 130}[d.below(8)]
	}
	return d.below(9)
}

func init() {
	maker(func(d *dice) api.Dense { return denseOf(d.vec(api.PlusTimes, d.places())) })
}

// badDenses can't be, each by one thing.
func badDenses() []api.Dense {
	return []api.Dense{
		{N: -1}, {N: math.MinInt}, {N: 4097, Has: make([]uint64, 65), Vals: make([]int64, 4097)}, {N: 4097, Has: make([]uint64, 64), Vals: make([]int64, 4097)}, {N: math.MaxInt},
		{N: 2}, {N: 2, Has: []uint64{1}}, {N: 2, Vals: []int64{0, 0}}, {N: 2, Has: []uint64{0, 0}, Vals: []int64{0, 0}}, {N: 2, Has: []uint64{4}, Vals: []int64{0, 0}},
		{N: 2, Has: []uint64{1}, Vals: []int64{5}}, {N: 2, Has: []uint64{1}, Vals: []int64{5, 0, 0}}, {N: 2, Has: []uint64{1}, Vals: []int64{5, 6}}, {N: 2, Has: []uint64{2}, Vals: []int64{5, 6}},
		{N: 0, Has: []uint64{0}}, {N: 0, Vals: []int64{0}}, {N: 64, Has: []uint64{0, 0}, Vals: make([]int64, 64)},
	}
}

func TestP10_1(t *testing.T) {
	d := &dice{}
	for i := 0; i < 500; i++ {
		v := d.vec(api.PlusTimes, d.places())
		x := denseOf(v)
		want(t, "Right", devec.Right(x), true)
		want(t, "Of", devec.Of(v), x)
		want(t, "Back", devec.Back(x), v)
	}
	for _, n := range []int{0, 1, 64, 65, 4096} {
		want(t, "New", devec.New(n), denseOf(api.Vec{N: n}))
	}
	for _, n := range []int{-1, math.MinInt, 4097, math.MaxInt} {
		want(t, "New of none", devec.New(n), api.Dense{})
	}
	for _, x := range badDenses() {
		want(t, "Right", devec.Right(x), false)
		want(t, "Back", devec.Back(x), api.Vec{})
	}
	for _, v := range badVecs() {
		want(t, "Of", devec.Of(v), api.Dense{})
	}
	want(t, "Right of none", devec.Right(api.Dense{}), true)
	want(t, "Back of values that are 0", devec.Back(api.Dense{N: 2, Has: []uint64{2}, Vals: []int64{0, 0}}), api.Vec{N: 2, Items: []api.Item{{At: 1}}})
}

func TestP10_2(t *testing.T) {
	d := &dice{state: 2}
	for i := 0; i < 600; i++ {
		v := d.vec(api.PlusTimes, d.places())
		x := denseOf(v)
		want(t, "Count", devec.Count(x), len(v.Items))
		want(t, "Same", devec.Same(x, denseOf(v)), true)
		f := d.set(3)
		only := api.Vec{N: v.N}
		in := map[int]int64{}
		for _, y := range v.Items {
			in[y.At] = y.Val
			if flags.Has(f, y.At) {
				only.Items = append(only.Items, y)
			}
		}
		want(t, "Only", devec.Only(x, f), denseOf(only))
		for _, at := range []int{math.MinInt, -1, 0, 1, 2, 3, 63, 64, 65, v.N - 1, v.N, math.MaxInt} {
			_, is := in[at]
			val, ok := devec.Get(x, at)
			want(t, "Get", val, in[at])
			want(t, "whether there is one", ok, is)
			set, drop := denseOf(v), denseOf(v)
			if at >= 0 && at < v.N {
				set.Has[at/64] |= 1 << (at % 64)
				set.Vals[at] = -9
				drop.Has[at/64] &^= 1 << (at % 64)
				drop.Vals[at] = 0
			}
			want(t, "Set", devec.Set(x, at, -9), set)
			want(t, "Drop", devec.Drop(x, at), drop)
		}
		for n := 0; n < 8; n++ {
			from, to := d.below(12)-2, d.below(12)-2
			if d.coin() {
				from, to = d.below(140)-2, d.below(140)-2
			}
			if d.below(6) == 0 {
				from = int(d.odd())
			}
			if d.below(6) == 0 {
				to = int(d.odd())
			}
			want(t, "Part", devec.Part(x, from, to), denseOf(spvec.Part(v, from, to)))
		}
	}
	a := api.Dense{N: 3, Has: []uint64{5}, Vals: []int64{4, 0, 0}}
	for _, b := range []api.Dense{{}, {N: 4, Has: []uint64{5}, Vals: []int64{4, 0, 0, 0}}, {N: 3, Has: []uint64{1}, Vals: []int64{4, 0, 0}}, {N: 3, Has: []uint64{5}, Vals: []int64{5, 0, 0}}, {N: 3, Has: []uint64{7}, Vals: []int64{4, 0, 0}}} {
		want(t, "Same of others", devec.Same(a, b) || devec.Same(b, a), false)
	}
	for _, x := range badDenses() {
		val, ok := devec.Get(x, 0)
		if val != 0 || ok || devec.Count(x) != 0 || !devec.Same(x, api.Dense{}) {
			t.Errorf("%v has something", x)
		}
		for _, y := range []api.Dense{devec.Set(x, 0, 1), devec.Drop(x, 0), devec.Only(x, []uint64{3}), devec.Part(x, 0, 2)} {
			want(t, "of what can't be", y, api.Dense{})
		}
	}
}

func TestP10_3(t *testing.T) {
	d := &dice{state: 3}
	for i := 0; i < 500; i++ {
		v := d.vec(api.PlusTimes, d.places())
		want(t, "Back of Of", devec.Back(devec.Of(v)), v)
		x := denseOf(v)
		want(t, "Of of Back", devec.Of(devec.Back(x)), x)
	}
}

func TestP10_4(t *testing.T) {
	d := &dice{state: 4}
	for i := 0; i < 500; i++ {
		v := d.vec(api.PlusTimes, d.places())
		x := devec.Of(v)
		at, to, val := d.below(140)-2, d.below(140)-2, d.odd()
		a, is := devec.Get(x, at)
		b, too := spvec.Get(v, at)
		want(t, "Get", a, b)
		want(t, "Get", is, too)
		want(t, "Set", devec.Back(devec.Set(x, at, val)), spvec.Put(v, at, val))
		want(t, "Drop", devec.Back(devec.Drop(x, at)), spvec.Drop(v, at))
		want(t, "Part", devec.Back(devec.Part(x, at, to)), spvec.Part(v, at, to))
	}
}

func TestP10_5(t *testing.T) {
	d := &dice{state: 5}
	for i := 0; i < 500; i++ {
		v := d.vec(api.PlusTimes, d.places())
		x := devec.Of(v)
		f := d.set(3)
		only, others := devec.Only(x, f), devec.Only(x, flags.Flip(f, v.N))
		want(t, "in all", devec.Count(only)+devec.Count(others), devec.Count(x))
		for at := range v.N {
			a, is := devec.Get(only, at)
			b, too := devec.Get(others, at)
			want(t, "each once", is && too, false)
			val, ok := devec.Get(x, at)
			want(t, "what there is", is || too, ok)
			want(t, "what there is", a+b, val)
		}
	}
	val, ok := devec.Get(devec.Set(devec.New(3), 2, 8), 2)
	want(t, "Set at 2", val, 8)
	want(t, "Set at 2", ok, true)
}

func TestDevecWhatever(t *testing.T) {
	whatever(t, 400, face{"devec.Right", devec.Right, false}, face{"devec.New", devec.New, false}, face{"devec.Of", devec.Of, false}, face{"devec.Back", devec.Back, false},
		face{"devec.Get", devec.Get, false}, face{"devec.Set", devec.Set, false}, face{"devec.Drop", devec.Drop, false}, face{"devec.Count", devec.Count, false},
		face{"devec.Only", devec.Only, false}, face{"devec.Part", devec.Part, false}, face{"devec.Same", devec.Same, false})
}
