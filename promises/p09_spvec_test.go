package promises

import (
	"math"
	"slices"
	"testing"

	"fretwork/api"
	"fretwork/spvec"
)

// vec is a vector of n places, its values those of a ring.
func (d *dice) vec(r api.Ring, n int) api.Vec {
	v := api.Vec{N: n}
	some := d.between(1, 4)
	for at := range n {
		if d.below(4) < some {
			v.Items = append(v.Items, api.Item{At: at, Val: d.value(r)})
		}
	}
	return v
}

func init() {
	maker(func(d *dice) api.Vec { return d.vec(api.PlusTimes, d.below(9)) })
	maker(func(d *dice) []api.Item { return d.vec(api.PlusTimes, d.below(9)).Items })
}

// badVecs can't be, each by one thing.
func badVecs() []api.Vec {
	return []api.Vec{
		{N: -1}, {N: math.MinInt}, {N: 4097}, {N: math.MaxInt}, {N: 0, Items: []api.Item{{At: 0, Val: 1}}},
		{N: 3, Items: []api.Item{{At: 3, Val: 1}}}, {N: 3, Items: []api.Item{{At: -1, Val: 1}}}, {N: 3, Items: []api.Item{{At: 1, Val: 1}, {At: 1, Val: 2}}},
		{N: 3, Items: []api.Item{{At: 2, Val: 1}, {At: 1, Val: 2}}}, {N: 4, Items: []api.Item{{At: 0}, {At: 2}, {At: 4}}},
	}
}

func TestP9_1(t *testing.T) {
	d := &dice{}
	for i := 0; i < 2000; i++ {
		n := d.between(1, 5)
		var l []api.Item
		var es []api.Edge
		for k := d.below(8); k > 0; k-- {
			x := api.Item{At: d.below(n), Val: d.small()}
			if d.below(3) == 0 {
				x.Val = d.odd()
			}
			l = append(l, x)
			es = append(es, api.Edge{From: x.At, W: x.Val})
		}
		for _, r := range allRings {
			v, e := spvec.Of(r, n, l)
			sums, se := combined(r, es)
			right := api.Vec{N: n}
			for _, s := range sums {
				right.Items = append(right.Items, api.Item{At: s.From, Val: s.W})
			}
			if se != api.OK {
				right = api.Vec{}
			}
			want(t, "Of", v, right)
			want(t, "its error", e, se)
		}
		v := d.vec(api.PlusTimes, d.below(9))
		want(t, "Right", spvec.Right(v), true)
	}
	for _, c := range []struct {
		r api.Ring
		n int
		l []api.Item
		e api.Errno
	}{
		{0, -1, nil, api.ErrKind}, {6, 1, nil, api.ErrKind}, {5, -1, nil, api.ErrRange}, {5, 4097, nil, api.ErrRange}, {5, math.MaxInt, nil, api.ErrRange}, {5, 4096, []api.Item{{At: 4095}}, api.OK}, {1, 0, nil, api.OK},
		{5, 2, []api.Item{{At: 2}}, api.ErrRange}, {5, 2, []api.Item{{At: -1}}, api.ErrRange}, {5, 0, []api.Item{{}}, api.ErrRange},
		{5, 2, []api.Item{{Val: math.MaxInt64}, {Val: math.MaxInt64}, {At: 2}}, api.ErrRange}, {5, 2, []api.Item{{Val: math.MinInt64}, {Val: -1}}, api.ErrOver}, {5, 2, []api.Item{{Val: math.MinInt64}, {Val: -1}, {Val: 1}}, api.OK},
	} {
		if _, e := spvec.Of(c.r, c.n, c.l); e != c.e {
			t.Errorf("Of by %d, %d, %v: %d, not %d", c.r, c.n, c.l, e, c.e)
		}
	}
	for _, n := range []int{0, 1, 3, 4096} {
		v := spvec.Fill(n, -7)
		want(t, "Fill", v.N, n)
		want(t, "all of them", len(v.Items), n)
		for i, x := range v.Items {
			want(t, "Fill", x, api.Item{At: i, Val: -7})
		}
	}
	for _, n := range []int{-1, math.MinInt, 4097, math.MaxInt} {
		want(t, "Fill of none", spvec.Fill(n, 1), api.Vec{})
	}
	for _, v := range badVecs() {
		want(t, "Right", spvec.Right(v), false)
	}
	want(t, "Right of none", spvec.Right(api.Vec{}) && spvec.Right(api.Vec{N: 4096}), true)
}

func TestP9_2(t *testing.T) {
	d := &dice{state: 2}
	for i := 0; i < 1000; i++ {
		v := d.vec(api.PlusTimes, d.below(9))
		in := map[int]int64{}
		var places []int
		index := api.Vec{N: v.N}
		for _, x := range v.Items {
			in[x.At] = x.Val
			places = append(places, x.At)
			index.Items = append(index.Items, api.Item{At: x.At, Val: int64(x.At)})
		}
		want(t, "Places", spvec.Places(v), places)
		want(t, "Index", spvec.Index(v), index)
		for _, at := range []int{math.MinInt, -1, 0, 1, 2, d.below(9), v.N - 1, v.N, v.N + 1, math.MaxInt} {
			_, is := in[at]
			val, ok := spvec.Get(v, at)
			want(t, "Get", val, in[at])
			want(t, "whether there is one", ok, is)
			put, drop := v, api.Vec{N: v.N}
			if at >= 0 && at < v.N {
				put = api.Vec{N: v.N}
				for k := range v.N {
					if k == at {
						put.Items = append(put.Items, api.Item{At: k, Val: 77})
					} else if val, is := in[k]; is {
						put.Items = append(put.Items, api.Item{At: k, Val: val})
					}
				}
			}
			for _, x := range v.Items {
				if x.At != at {
					drop.Items = append(drop.Items, x)
				}
			}
			want(t, "Put", spvec.Put(v, at, 77), put)
			want(t, "Drop", spvec.Drop(v, at), drop)
		}
	}
	for _, v := range badVecs() {
		val, ok := spvec.Get(v, 1)
		if val != 0 || ok || len(spvec.Places(v)) > 0 {
			t.Errorf("%v has something", v)
		}
		want(t, "Put", spvec.Put(v, 1, 2), api.Vec{})
		want(t, "Drop", spvec.Drop(v, 1), api.Vec{})
		want(t, "Index", spvec.Index(v), api.Vec{})
	}
}

func TestP9_3(t *testing.T) {
	d := &dice{state: 3}
	for i := 0; i < 1000; i++ {
		v := d.vec(api.PlusTimes, d.below(9))
		from, to := d.below(12)-2, d.below(12)-2
		if d.below(6) == 0 {
			from = int(d.odd())
		}
		if d.below(6) == 0 {
			to = int(d.odd())
		}
		low, high := max(from, 0), min(to, v.N)
		var right api.Vec
		if high > low {
			right.N = high - low
			for _, x := range v.Items {
				if x.At >= low && x.At < high {
					right.Items = append(right.Items, api.Item{At: x.At - low, Val: x.Val})
				}
			}
		}
		want(t, "Part", spvec.Part(v, from, to), right)
		l := []api.Vec{v, d.vec(api.PlusTimes, d.below(5)), badVecs()[d.below(10)], d.vec(api.PlusTimes, d.below(5))}[d.below(4):]
		var glued api.Vec
		for _, x := range l {
			if !spvec.Right(x) {
				continue
			}
			for _, y := range x.Items {
				glued.Items = append(glued.Items, api.Item{At: glued.N + y.At, Val: y.Val})
			}
			glued.N += x.N
		}
		got, e := spvec.Glue(l...)
		want(t, "Glue", got, glued)
		want(t, "its error", e, api.OK)
	}
	got, e := spvec.Glue()
	want(t, "Glue of none", got, api.Vec{})
	want(t, "its error", e, api.OK)
	got, e = spvec.Glue(spvec.Fill(4096, 1), api.Vec{})
	want(t, "as many as there may be", got, spvec.Fill(4096, 1))
	want(t, "its error", e, api.OK)
	got, e = spvec.Glue(spvec.Fill(4096, 1), api.Vec{N: 1})
	want(t, "too many", got, api.Vec{})
	want(t, "its error", e, api.ErrLong)
	a := api.Vec{N: 3, Items: []api.Item{{At: 0, Val: 4}, {At: 2, Val: 5}}}
	for _, b := range []api.Vec{{}, {N: 3}, {N: 4, Items: a.Items}, {N: 3, Items: a.Items[:1]}, {N: 3, Items: []api.Item{{At: 1, Val: 4}, {At: 2, Val: 5}}}, {N: 3, Items: []api.Item{{At: 0, Val: 4}, {At: 2, Val: 6}}}} {
		want(t, "Same of others", spvec.Same(a, b) || spvec.Same(b, a), false)
	}
	want(t, "Same", spvec.Same(a, api.Vec{N: 3, Items: slices.Clone(a.Items)}) && spvec.Same(api.Vec{N: 2}, api.Vec{N: 2, Items: []api.Item{}}), true)
	for _, v := range badVecs() {
		want(t, "Part", spvec.Part(v, 0, 2), api.Vec{})
		want(t, "Same", spvec.Same(v, api.Vec{}), true)
	}
}

func TestP9_4(t *testing.T) {
	d := &dice{state: 4}
	for i := 0; i < 500; i++ {
		v := d.vec(api.PlusTimes, d.between(1, 9))
		at, val := d.below(v.N), d.odd()
		put := spvec.Put(v, at, val)
		for k := range v.N {
			a, is := spvec.Get(v, k)
			b, too := spvec.Get(put, k)
			if k == at {
				a, is = val, true
			}
			want(t, "what is put", b, a)
			want(t, "what is put", too, is)
		}
		for _, r := range allRings {
			got, e := spvec.Of(r, v.N, v.Items)
			want(t, "Of of its items", got, v)
			want(t, "its error", e, api.OK)
		}
	}
}

func TestP9_5(t *testing.T) {
	d := &dice{state: 5}
	for i := 0; i < 500; i++ {
		v := d.vec(api.PlusTimes, d.below(12))
		k := d.below(v.N + 1)
		got, e := spvec.Glue(spvec.Part(v, 0, k), spvec.Part(v, k, v.N))
		want(t, "parts, glued", got, v)
		want(t, "their error", e, api.OK)
		from, to := d.below(v.N+1), d.below(v.N+1)
		part := spvec.Part(v, from, to)
		a, b := d.below(part.N+1), d.below(part.N+1)
		want(t, "a part of a part", spvec.Part(part, a, b), spvec.Part(v, from+a, from+b))
	}
}

func TestP9_6(t *testing.T) {
	d := &dice{state: 6}
	for i := 0; i < 500; i++ {
		var l []api.Item
		for n := d.below(12); n > 0; n-- {
			l = append(l, api.Item{At: d.below(9), Val: d.small()})
		}
		v, _ := spvec.Of(api.MinPlus, 9, l)
		places := spvec.Places(spvec.Put(v, d.below(9), 1))
		for i := 1; i < len(places); i++ {
			want(t, "the places rise", places[i-1] < places[i], true)
		}
	}
}

func TestSpvecWhatever(t *testing.T) {
	whatever(t, 400, face{"spvec.Right", spvec.Right, false}, face{"spvec.Of", spvec.Of, false}, face{"spvec.Fill", spvec.Fill, false},
		face{"spvec.Get", spvec.Get, false}, face{"spvec.Put", spvec.Put, false}, face{"spvec.Drop", spvec.Drop, false}, face{"spvec.Places", spvec.Places, false},
		face{"spvec.Index", spvec.Index, false}, face{"spvec.Part", spvec.Part, false}, face{"spvec.Glue", spvec.Glue, false}, face{"spvec.Same", spvec.Same, false})
}
