package promises

import (
	"testing"

	"fretwork/api"
	"fretwork/csr"
	"fretwork/dcsc"
	"fretwork/pull"
	"fretwork/push"
	"fretwork/spvec"
	"fretwork/wide"
)

func TestP14_1(t *testing.T) {
	d := &dice{}
	for i := 0; i < 800; i++ {
		rows, cols := d.below(6), d.below(6)
		for _, r := range allRings {
			m, v, f := d.matrixOf(r, rows, cols), d.vec(r, cols), d.set(2)
			if d.below(4) == 0 {
				m, v = rowsOf(rows, cols, d.triples(rows, cols)), d.vec(api.PlusTimes, cols)
			}
			c := columnsOf(m)
			for _, others := range []bool{false, true} {
				got, e := push.Sums(r, c, v, f, others)
				want(t, "Sums", got, sums(r, m, v, f, others))
				want(t, "its error", e, api.OK)
				x, e := push.Times(r, c, v, f, others)
				right, re := pull.Done(r, rows, sums(r, m, v, f, others))
				want(t, "Times", x, right)
				want(t, "its error", e, re)
			}
			work := 0
			for _, x := range csr.Triples(m) {
				if _, is := spvec.Get(v, x.Col); is {
					work++
				}
			}
			want(t, "Work", push.Work(c, v), work)
		}
	}
	c := columnsOf(rowsOf(1, 2, []api.Triple{{Col: 1, Val: 3}}))
	v := api.Vec{N: 2, Items: []api.Item{{At: 1, Val: 4}}}
	for _, r := range noRings {
		_, e := push.Sums(r, c, api.Vec{}, nil, true)
		want(t, "no ring", e, api.ErrKind)
		_, e = push.Times(r, c, api.Vec{}, nil, true)
		want(t, "no ring", e, api.ErrKind)
	}
	_, e := push.Sums(1, c, api.Vec{N: 3}, nil, true)
	want(t, "sizes", e, api.ErrSize)
	got, e := push.Times(1, c, api.Vec{N: 1}, nil, true)
	want(t, "sizes", e, api.ErrSize)
	want(t, "sizes", got, api.Vec{})
	for _, bad := range badColumns() {
		_, e = push.Sums(1, bad, v, nil, true)
		want(t, "a matrix that can't be", e, api.ErrSize)
		got, e = push.Times(1, bad, api.Vec{}, nil, true)
		want(t, "a matrix that can't be", e, api.OK)
		want(t, "a matrix that can't be", got, api.Vec{})
		want(t, "Work", push.Work(bad, v), 0)
	}
	for _, bad := range badVecs() {
		_, e = push.Sums(1, c, bad, nil, true)
		want(t, "a vector that can't be", e, api.ErrSize)
		_, e = push.Sums(1, columnsOf(rowsOf(2, 0, nil)), bad, nil, true)
		want(t, "a vector that can't be", e, api.OK)
		want(t, "Work", push.Work(c, bad), 0)
	}
}

// mergeOf is what all lists tell, by other means.
func mergeOf(r api.Ring, l [][]api.Sum, n int) []api.Sum {
	var out []api.Sum
	for at := -n; at < n; at++ {
		var all []api.Wide
		for _, list := range l {
			for _, s := range list {
				if s.At == at {
					all = append(all, s.Val)
				}
			}
		}
		for k := 1; k < len(all); k++ {
			all[0] = sumOf(r, all[0], all[k])
		}
		if len(all) > 0 {
			out = append(out, api.Sum{At: at, Val: all[0]})
		}
	}
	return out
}

func TestP14_2(t *testing.T) {
	d := &dice{state: 2}
	for i := 0; i < 1000; i++ {
		var l [][]api.Sum
		for n := d.below(6); n > 0; n-- {
			list := d.sumsOf(d.below(8))
			for k := range list {
				list[k].At -= 2
			}
			l = append(l, list)
		}
		for _, r := range allRings {
			got, e := push.Merge(r, l...)
			want(t, "Merge", got, mergeOf(r, l, 9))
			want(t, "its error", e, api.OK)
		}
	}
	bad := []api.Sum{{At: 1}, {At: 1}}
	for _, r := range noRings {
		_, e := push.Merge(r, bad)
		want(t, "no ring", e, api.ErrKind)
	}
	for _, l := range [][][]api.Sum{{bad}, {nil, {{At: 0}}, bad}, {{{At: 2}, {At: 1}}, nil}, {{{At: 1}, {At: 3}, {At: 2}}}} {
		got, e := push.Merge(1, l...)
		want(t, "what does not rise", e, api.ErrOrder)
		want(t, "nothing beside it", got, nil)
	}
	got, e := push.Merge(1)
	want(t, "no lists", got, nil)
	want(t, "no lists", e, api.OK)
	got, _ = push.Merge(api.MinPlus, []api.Sum{{At: 1, Val: wide.Of(5)}}, []api.Sum{{At: 1, Val: wide.Of(3)}})
	want(t, "5 and 3", got, []api.Sum{{At: 1, Val: wide.Of(3)}})
	got, _ = push.Merge(api.OrAnd, []api.Sum{{At: 1, Val: wide.Of(5)}}, []api.Sum{{At: 2, Val: wide.Of(3)}})
	want(t, "lone ones stay", got, []api.Sum{{At: 1, Val: wide.Of(5)}, {At: 2, Val: wide.Of(3)}})
}

func TestP14_3(t *testing.T) {
	d := &dice{state: 3}
	for i := 0; i < 500; i++ {
		for _, r := range allRings {
			rows, cols := d.below(6), d.places()
			m, v, f, others := d.matrixOf(r, rows, cols), d.vec(r, cols), d.set(1), d.coin()
			a, e := push.Sums(r, dcsc.Of(m), v, f, others)
			b, g := pull.Sums(r, m, denseOf(v), f, others)
			want(t, "pushed and pulled", a, b)
			want(t, "pushed and pulled", e, g)
		}
	}
}

func TestP14_4(t *testing.T) {
	d := &dice{state: 4}
	for i := 0; i < 300; i++ {
		for _, r := range allRings {
			rows, cols := d.below(6), d.below(9)
			m, v := d.matrixOf(r, rows, cols), d.vec(r, cols)
			a, b := d.below(cols+1), d.below(cols+1)
			a, b = min(a, b), max(a, b)
			var l [][]api.Sum
			for _, part := range [][2]int{{0, a}, {a, b}, {b, cols}} {
				x := spvec.Part(v, part[0], part[1])
				s, e := push.Sums(r, dcsc.Of(csr.Cut(m, [2]int{0, rows}, part)), x, nil, true)
				want(t, "a part", e, api.OK)
				l = append(l, s)
			}
			got, _ := push.Merge(r, l...)
			want(t, "the whole", got, sums(r, m, v, nil, true))
		}
	}
}

func TestP14_5(t *testing.T) {
	d := &dice{state: 5}
	for i := 0; i < 500; i++ {
		for _, r := range allRings {
			l := [][]api.Sum{d.sumsOf(6), d.sumsOf(6), d.sumsOf(6)}
			a, _ := push.Merge(r, l...)
			b, _ := push.Merge(r, l[2], l[0], l[1])
			want(t, "in any order", a, b)
		}
	}
}

func TestPushWhatever(t *testing.T) {
	whatever(t, 500, face{"push.Sums", push.Sums, false}, face{"push.Merge", push.Merge, false}, face{"push.Times", push.Times, false}, face{"push.Work", push.Work, false},
		face{"push.Sums and Times", fitting(func(r api.Ring, m api.Rows, x api.Vec, set []uint64, others bool) ([]api.Sum, api.Vec, api.Errno, api.Errno) {
			c := dcsc.Of(m)
			x.N = c.Cols
			s, a := push.Sums(r, c, x, set, others)
			v, b := push.Times(r, c, x, set, others)
			return s, v, a, b
		}), false})
}
