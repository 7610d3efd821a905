package promises

import (
	"math"
	"testing"

	"fretwork/api"
	"fretwork/blend"
	"fretwork/csr"
	"fretwork/flags"
	"fretwork/pull"
	"fretwork/ring"
	"fretwork/wide"
)

// sums is what rows come to, by other means.
func sums(r api.Ring, m api.Rows, v api.Vec, f []uint64, others bool) []api.Sum {
	in := inVec(v)
	var out []api.Sum
	for i := range m.Rows {
		if flags.Has(f, i) == others {
			continue
		}
		var all []api.Wide
		for _, x := range csr.Row(m, i) {
			if val, is := in[x.At]; is {
				all = append(all, timesOf(r, x.Val, val))
			}
		}
		for k := 1; k < len(all); k++ {
			all[0] = sumOf(r, all[0], all[k])
		}
		if len(all) > 0 {
			out = append(out, api.Sum{At: i, Val: all[0]})
		}
	}
	return out
}

// sumsOf is sums at rising places below n.
func (d *dice) sumsOf(n int) []api.Sum {
	var l []api.Sum
	for at := range n {
		if d.coin() {
			l = append(l, api.Sum{At: at, Val: d.wide()})
		}
	}
	return l
}

func init() { maker(func(d *dice) []api.Sum { return d.sumsOf(5) }) }

func TestP13_1(t *testing.T) {
	d := &dice{}
	for i := 0; i < 800; i++ {
		rows, cols := d.below(6), d.below(6)
		if d.below(10) == 0 {
			rows, cols = d.places(), d.places()
		}
		for _, r := range allRings {
			m := d.matrixOf(r, rows, cols)
			v := d.vec(r, cols)
			if d.below(4) == 0 {
				m, v = rowsOf(rows, cols, d.triples(rows, cols)), d.vec(api.PlusTimes, cols)
			}
			f := d.set(2)
			for _, others := range []bool{false, true} {
				got, e := pull.Sums(r, m, denseOf(v), f, others)
				want(t, "Sums", got, sums(r, m, v, f, others))
				want(t, "its error", e, api.OK)
			}
		}
	}
	m := rowsOf(1, 2, []api.Triple{{Col: 0, Val: 2}, {Col: 1, Val: 3}})
	x := denseOf(api.Vec{N: 2, Items: []api.Item{{At: 0, Val: 5}, {At: 1, Val: 1}}})
	got, _ := pull.Sums(api.MinPlus, m, x, nil, true)
	want(t, "the least of 7 and 4", got, []api.Sum{{Val: wide.Of(4)}})
	got, _ = pull.Sums(api.MinPlus, m, denseOf(api.Vec{N: 2, Items: []api.Item{{Val: api.Inf}}}), nil, true)
	want(t, "a row that comes to Zero", got, []api.Sum{{Val: wide.Of(api.Inf)}})
	for _, r := range noRings {
		_, e := pull.Sums(r, m, api.Dense{}, nil, true)
		want(t, "no ring", e, api.ErrKind)
	}
	_, e := pull.Sums(1, m, api.Dense{}, nil, true)
	want(t, "sizes", e, api.ErrSize)
	for _, bad := range badMatrices() {
		_, e = pull.Sums(1, bad, x, nil, true)
		want(t, "a matrix that can't be", e, api.ErrSize)
		got, e = pull.Sums(1, bad, api.Dense{}, nil, true)
		want(t, "a matrix that can't be", e, api.OK)
		want(t, "a matrix that can't be", got, nil)
	}
	for _, bad := range badDenses() {
		_, e = pull.Sums(1, m, bad, nil, true)
		want(t, "a vector that can't be", e, api.ErrSize)
		_, e = pull.Sums(1, rowsOf(2, 0, nil), bad, nil, true)
		want(t, "a vector that can't be", e, api.OK)
	}
}

func TestP13_2(t *testing.T) {
	d := &dice{state: 2}
	for i := 0; i < 500; i++ {
		for _, r := range allRings {
			n := d.below(7)
			l := d.sumsOf(n)
			right, e := api.Vec{N: n}, api.OK
			for k, s := range l {
				if d.below(3) > 0 {
					l[k].Val = wide.Of([]int64{ring.Zero(r), 0, 1, api.Inf, 5}[d.below(5)])
				}
				s = l[k]
				val, ok := wide.Narrow(s.Val)
				if !ok {
					e = api.ErrOver
				}
				if val != ring.Zero(r) {
					right.Items = append(right.Items, api.Item{At: s.At, Val: val})
				}
			}
			if e != api.OK {
				right = api.Vec{}
			}
			got, ge := pull.Done(r, n, l)
			want(t, "Done", got, right)
			want(t, "its error", ge, e)
			m, v, f := d.matrixOf(r, 5, n), d.vec(r, n), d.set(1)
			others := d.coin()
			want2, we := pull.Done(r, 5, sums(r, m, v, f, others))
			got, ge = pull.Times(r, m, denseOf(v), f, others)
			want(t, "Times", got, want2)
			want(t, "its error", ge, we)
		}
	}
	over := api.Sum{At: 1, Val: api.Wide{Lo: 1 << 63}}
	for _, c := range []struct {
		r api.Ring
		n int
		l []api.Sum
		e api.Errno
	}{
		{0, -1, nil, api.ErrKind}, {6, 1, nil, api.ErrKind}, {1, -1, nil, api.ErrRange}, {1, 4097, nil, api.ErrRange}, {1, math.MaxInt, nil, api.ErrRange}, {1, 4096, []api.Sum{{At: 4095}}, api.OK}, {1, 0, nil, api.OK},
		{1, 2, []api.Sum{{At: 2}}, api.ErrRange}, {1, 2, []api.Sum{{At: -1}}, api.ErrRange}, {1, 3, []api.Sum{over, over, {At: 3}}, api.ErrRange}, {1, 3, []api.Sum{{At: 1}, {At: 1}}, api.ErrOrder}, {1, 3, []api.Sum{over, {At: 0}}, api.ErrOrder},
		{5, 3, []api.Sum{{At: 0}, over}, api.ErrOver}, {5, 3, []api.Sum{{At: 0, Val: api.Wide{Hi: -1, Lo: 1 << 63}}, {At: 1}}, api.OK},
	} {
		got, e := pull.Done(c.r, c.n, c.l)
		want(t, "Done's error", e, c.e)
		if c.e != api.OK {
			want(t, "nothing beside it", got, api.Vec{})
		}
	}
	m := rowsOf(2, 1, []api.Triple{{Val: 1 << 40}, {Row: 1, Val: 1}})
	x := denseOf(api.Vec{N: 1, Items: []api.Item{{Val: 1 << 30}}})
	_, e := pull.Times(api.PlusTimes, m, x, nil, true)
	want(t, "over", e, api.ErrOver)
	got, e := pull.Times(api.PlusTimes, m, x, []uint64{1}, true)
	want(t, "a row that is over, but not asked", got, api.Vec{N: 2, Items: []api.Item{{At: 1, Val: 1 << 30}}})
	want(t, "a row that is over, but not asked", e, api.OK)
	_, e = pull.Times(0, m, api.Dense{}, nil, true)
	want(t, "no ring", e, api.ErrKind)
	_, e = pull.Times(1, m, api.Dense{}, nil, true)
	want(t, "sizes", e, api.ErrSize)
	got, e = pull.Times(1, badMatrices()[0], api.Dense{}, nil, true)
	want(t, "what can't be", got, api.Vec{})
	want(t, "what can't be", e, api.OK)
}

// without is a vector without the values that are Zero.
func without(r api.Ring, v api.Vec) api.Vec {
	out := api.Vec{N: v.N}
	for _, x := range v.Items {
		if x.Val != ring.Zero(r) {
			out.Items = append(out.Items, x)
		}
	}
	return out
}

func TestP13_3(t *testing.T) {
	d := &dice{state: 3}
	for i := 0; i < 500; i++ {
		for _, r := range allRings {
			rows, cols := d.below(6), d.below(6)
			m, a, b := d.matrixOf(r, rows, cols), d.vec(r, cols), d.vec(r, cols)
			union, e1 := blend.Union(r, a, b)
			all, e2 := pull.Times(r, m, denseOf(union), nil, true)
			x, e3 := pull.Times(r, m, denseOf(a), nil, true)
			y, e4 := pull.Times(r, m, denseOf(b), nil, true)
			if e1 != api.OK || e2 != api.OK || e3 != api.OK || e4 != api.OK {
				continue
			}
			both, e := blend.Union(r, x, y)
			if e == api.OK {
				want(t, "Times spreads", all, without(r, both))
			}
		}
	}
}

func TestP13_4(t *testing.T) {
	d := &dice{state: 4}
	for i := 0; i < 300; i++ {
		for _, r := range allRings[:4] {
			m, v, f := d.matrixOf(r, 6, 5), denseOf(d.vec(r, 5)), d.set(1)
			in, _ := pull.Times(r, m, v, f, false)
			others, _ := pull.Times(r, m, v, f, true)
			all, _ := pull.Times(r, m, v, nil, true)
			both, _ := blend.Union(r, in, others)
			want(t, "what all has", both, all)
			want(t, "each once", len(in.Items)+len(others.Items), len(all.Items))
		}
	}
}

func TestP13_5(t *testing.T) {
	d := &dice{state: 5}
	for i := 0; i < 300; i++ {
		for _, r := range allRings {
			got, _ := pull.Times(r, d.matrixOf(r, 4, 4), denseOf(api.Vec{N: 4}), nil, true)
			want(t, "no values", got, api.Vec{N: 4})
		}
		m, v := d.matrix(), d.vec(api.OrAnd, 6)
		for k := range m.Val {
			m.Val[k] = 1
		}
		v = vecOf(m.Cols, inVec(v))
		in, told := inVec(v), map[int]int64{}
		for _, x := range csr.Triples(m) {
			if in[x.Col] == 1 {
				told[x.Row] = 1
			}
		}
		got, _ := pull.Times(api.OrAnd, m, denseOf(v), nil, true)
		want(t, "by OrAnd", got, vecOf(m.Rows, told))
	}
}

// fitting is a matrix and a vector that fit, so that calls of both come to something.
func fitting(f func(r api.Ring, m api.Rows, x api.Vec, set []uint64, others bool) ([]api.Sum, api.Vec, api.Errno, api.Errno)) func(r api.Ring, m api.Rows, at []api.Item, set []uint64, others bool) ([]api.Sum, api.Vec, api.Errno) {
	return func(r api.Ring, m api.Rows, l []api.Item, set []uint64, others bool) ([]api.Sum, api.Vec, api.Errno) {
		s, v, a, b := f(r, m, api.Vec{N: m.Cols, Items: l}, set, others)
		if a != api.OK || b != api.OK {
			return nil, api.Vec{}, max(a, b)
		}
		return s, v, api.OK
	}
}

func TestPullWhatever(t *testing.T) {
	whatever(t, 500, face{"pull.Sums", pull.Sums, false}, face{"pull.Done", pull.Done, false}, face{"pull.Times", pull.Times, false},
		face{"pull.Sums and Times", fitting(func(r api.Ring, m api.Rows, x api.Vec, set []uint64, others bool) ([]api.Sum, api.Vec, api.Errno, api.Errno) {
			dense := api.Dense{N: m.Cols, Has: flags.New(m.Cols), Vals: make([]int64, max(0, min(m.Cols, 5000)))}
			for _, y := range x.Items {
				if y.At >= 0 && y.At < len(dense.Vals) {
					dense.Has = flags.Put(dense.Has, y.At)
					dense.Vals[y.At] = y.Val
				}
			}
			s, a := pull.Sums(r, m, dense, set, others)
			v, b := pull.Times(r, m, dense, set, others)
			return s, v, a, b
		}), false})
}
