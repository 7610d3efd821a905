package promises

import (
	"math"
	"slices"
	"testing"

	"fretwork/api"
	"fretwork/csr"
	"fretwork/fold"
	"fretwork/gemm"
	"fretwork/pull"
	"fretwork/ring"
	"fretwork/wide"
)

// cells is what the places of a mask come to, by other means.
func cells(r api.Ring, a, b, mask api.Rows) []api.Cell {
	var out []api.Cell
	for _, place := range csr.Triples(mask) {
		var all []api.Wide
		for k := range a.Cols {
			x, is := csr.Get(a, place.Row, k)
			y, too := csr.Get(b, k, place.Col)
			if is && too {
				all = append(all, timesOf(r, x, y))
			}
		}
		for k := 1; k < len(all); k++ {
			all[0] = sumOf(r, all[0], all[k])
		}
		if len(all) > 0 {
			out = append(out, api.Cell{Row: place.Row, Col: place.Col, Val: all[0]})
		}
	}
	return out
}

// full is a matrix with a value at each place.
func full(rows, cols int) api.Rows {
	var l []api.Triple
	for i := range rows {
		for k := range cols {
			l = append(l, api.Triple{Row: i, Col: k, Val: int64(i + k)})
		}
	}
	return rowsOf(rows, cols, l)
}

// three is matrices that fit.
func (d *dice) three(r api.Ring) (a, b, mask api.Rows) {
	rows, mid, cols := d.below(6), d.below(6), d.below(6)
	return d.matrixOf(r, rows, mid), d.matrixOf(r, mid, cols), d.matrixOf(api.PlusTimes, rows, cols)
}

func TestP15_1(t *testing.T) {
	d := &dice{}
	for i := 0; i < 500; i++ {
		for _, r := range allRings {
			a, b, mask := d.three(r)
			if d.coin() {
				mask = full(mask.Rows, mask.Cols)
			}
			got, e := gemm.Cells(r, a, b, mask)
			want(t, "Cells", got, cells(r, a, b, mask))
			want(t, "its error", e, api.OK)
		}
	}
	a, b, mask := full(2, 3), full(3, 4), full(2, 4)
	for _, r := range noRings {
		_, e := gemm.Cells(r, a, a, a)
		want(t, "no ring", e, api.ErrKind)
	}
	for _, c := range [][3]api.Rows{{a, full(4, 4), mask}, {full(2, 4), b, mask}, {a, b, full(3, 4)}, {a, b, full(2, 3)}, {a, b, noMatrix}, {badMatrices()[0], b, mask}, {a, badMatrices()[3], mask}, {a, b, badMatrices()[9]}} {
		got, e := gemm.Cells(api.MinPlus, c[0], c[1], c[2])
		want(t, "sizes", e, api.ErrSize)
		want(t, "nothing beside it", got, nil)
	}
	for _, m := range badMatrices() {
		got, e := gemm.Cells(api.MinPlus, m, m, m)
		want(t, "what can't be", e, api.OK)
		want(t, "what can't be", got, nil)
	}
	m, _ := csr.Graph(path(3))
	got, _ := gemm.Cells(api.PlusTimes, m, m, full(3, 3))
	want(t, "a path times itself", got, []api.Cell{{Row: 2, Col: 0, Val: wide.Of(1)}})
}

// cellsOf is cells at rising places below n.
func (d *dice) cellsOf(n int) []api.Cell {
	var l []api.Cell
	for i := range n {
		for k := range n {
			if d.below(3) == 0 {
				l = append(l, api.Cell{Row: i, Col: k, Val: d.wide()})
			}
		}
	}
	return l
}

func init() { maker(func(d *dice) []api.Cell { return d.cellsOf(3) }) }

func TestP15_2(t *testing.T) {
	d := &dice{state: 2}
	for i := 0; i < 500; i++ {
		l := [][]api.Cell{d.cellsOf(4), d.cellsOf(3), d.cellsOf(4)}[d.below(4):]
		for _, list := range l {
			for k := range list {
				list[k].Row -= 2
				list[k].Col -= 1
			}
		}
		for _, r := range allRings {
			var right []api.Cell
			for row := -2; row < 4; row++ {
				for col := -1; col < 4; col++ {
					var all []api.Wide
					for _, list := range l {
						for _, c := range list {
							if c.Row == row && c.Col == col {
								all = append(all, c.Val)
							}
						}
					}
					for k := 1; k < len(all); k++ {
						all[0] = sumOf(r, all[0], all[k])
					}
					if len(all) > 0 {
						right = append(right, api.Cell{Row: row, Col: col, Val: all[0]})
					}
				}
			}
			got, e := gemm.Merge(r, l...)
			want(t, "Merge", got, right)
			want(t, "its error", e, api.OK)
		}
	}
	for _, bad := range [][]api.Cell{{{Row: 1}, {Row: 1}}, {{Row: 1}, {Row: 0, Col: 5}}, {{Col: 2}, {Col: 1}}, {{Col: 1}, {Col: 3}, {Col: 2}}} {
		got, e := gemm.Merge(1, nil, bad)
		want(t, "what does not rise", e, api.ErrOrder)
		want(t, "nothing beside it", got, nil)
		for _, r := range noRings {
			_, e = gemm.Merge(r, bad)
			want(t, "no ring", e, api.ErrKind)
		}
		_, e = gemm.Done(1, 9, 9, bad)
		want(t, "Done of what does not rise", e, api.ErrOrder)
		_, e = gemm.Done(1, 1, 1, bad)
		want(t, "a place ahead of the order", e, api.ErrRange)
		for _, n := range []int{4097, math.MaxInt} {
			_, e = gemm.Done(1, n, 9, bad)
			want(t, "too many rows ahead of the order", e, api.ErrRange)
			_, e = gemm.Done(1, 9, n, bad)
			want(t, "too many columns ahead of the order", e, api.ErrRange)
		}
		_, e = gemm.Done(0, 1, 1, bad)
		want(t, "no ring ahead of all", e, api.ErrKind)
	}
	_, e := gemm.Merge(1)
	want(t, "no lists", e, api.OK)
	lone, _ := gemm.Merge(api.OrAnd, []api.Cell{{Row: 1, Val: wide.Of(7)}})
	want(t, "a lone one stays", lone, []api.Cell{{Row: 1, Val: wide.Of(7)}})
}

func TestP15_2_done(t *testing.T) {
	d := &dice{state: 3}
	for i := 0; i < 400; i++ {
		for _, r := range allRings {
			l := d.cellsOf(3)
			e := api.OK
			var kept []api.Triple
			for k := range l {
				if d.below(3) > 0 {
					l[k].Val = wide.Of([]int64{ring.Zero(r), 0, 1, api.Inf, 5}[d.below(5)])
				}
				val, ok := wide.Narrow(l[k].Val)
				if !ok {
					e = api.ErrOver
				}
				if val != ring.Zero(r) {
					kept = append(kept, api.Triple{Row: l[k].Row, Col: l[k].Col, Val: val})
				}
			}
			right := rowsOf(3, 4, kept)
			if e != api.OK {
				right = api.Rows{}
			}
			got, ge := gemm.Done(r, 3, 4, l)
			want(t, "Done", got, right)
			want(t, "its error", ge, e)
			a, b, mask := d.three(r)
			right, e = gemm.Done(r, mask.Rows, mask.Cols, cells(r, a, b, mask))
			got, ge = gemm.Times(r, a, b, mask)
			want(t, "Times", got, right)
			want(t, "its error", ge, e)
			v := api.Vec{N: len(mask.Val)}
			for at, val := range mask.Val {
				v.Items = append(v.Items, api.Item{At: at, Val: val})
			}
			total, ge := gemm.Total(r, mask)
			sum, e := fold.Reduce(r, v)
			want(t, "Total", total, sum)
			want(t, "its error", ge, e)
		}
	}
	many := make([]api.Cell, 0, api.MaxEdges+1)
	for i := 0; i <= api.MaxEdges; i++ {
		many = append(many, api.Cell{Row: i / 4096, Col: i % 4096, Val: api.Wide{Lo: 1 << 63}})
	}
	one := []api.Cell{{}}
	for _, c := range []struct {
		rows, cols int
		l          []api.Cell
		e          api.Errno
	}{
		{-1, 0, nil, api.ErrRange}, {0, -1, nil, api.ErrRange}, {4097, 0, nil, api.ErrRange}, {0, 4097, nil, api.ErrRange}, {math.MaxInt, math.MaxInt, one, api.ErrRange}, {4096, 4096, one, api.OK}, {0, 0, nil, api.OK},
		{1, 1, []api.Cell{{Row: 1}}, api.ErrRange}, {1, 1, []api.Cell{{Col: 1}}, api.ErrRange}, {1, 1, []api.Cell{{Row: -1}}, api.ErrRange}, {1, 1, []api.Cell{{Col: -1}}, api.ErrRange}, {0, 1, one, api.ErrRange}, {1, 0, one, api.ErrRange},
		{4096, 4096, many, api.ErrLong}, {4096, 4096, many[:api.MaxEdges], api.ErrOver}, {16, 4096, many, api.ErrRange}, {4096, 4096, append(slices.Clone(many), many[0]), api.ErrOrder},
	} {
		m, e := gemm.Done(api.PlusTimes, c.rows, c.cols, c.l)
		want(t, "Done's error", e, c.e)
		if e != api.OK {
			want(t, "nothing beside it", m, api.Rows{})
		}
	}
	for _, r := range noRings {
		_, e := gemm.Times(r, noMatrix, full(1, 1), noMatrix)
		want(t, "no ring", e, api.ErrKind)
		n, e := gemm.Total(r, full(2, 2))
		want(t, "no ring", e, api.ErrKind)
		want(t, "nothing beside it", n, 0)
	}
	_, e := gemm.Times(1, noMatrix, full(1, 1), noMatrix)
	want(t, "sizes", e, api.ErrSize)
	m, e := gemm.Times(1, badMatrices()[0], badMatrices()[1], badMatrices()[2])
	want(t, "what can't be", m, noMatrix)
	want(t, "what can't be", e, api.OK)
	for _, bad := range badMatrices() {
		n, e := gemm.Total(api.MinPlus, bad)
		want(t, "Total of what can't be", n, api.Inf)
		want(t, "Total of what can't be", e, api.OK)
	}
	over, e := gemm.Total(api.PlusTimes, rowsOf(1, 2, []api.Triple{{Val: math.MaxInt64}, {Col: 1, Val: 1}}))
	want(t, "a total that is over", e, api.ErrOver)
	want(t, "nothing beside it", over, 0)
	n, _ := gemm.Total(api.OrAnd, rowsOf(1, 1, []api.Triple{{Val: 7}}))
	want(t, "a lone one stays", n, 7)
}

func TestP15_3(t *testing.T) {
	d := &dice{state: 4}
	for i := 0; i < 300; i++ {
		for _, r := range allRings {
			a, b, mask := d.three(r)
			all, _ := gemm.Cells(r, a, b, full(mask.Rows, mask.Cols))
			for k := range b.Cols {
				var column []api.Sum
				for _, c := range all {
					if c.Col == k {
						column = append(column, api.Sum{At: c.Row, Val: c.Val})
					}
				}
				x := denseOf(api.Vec{N: b.Rows, Items: csr.Row(csr.Turn(b), k)})
				right, e := pull.Sums(r, a, x, nil, true)
				want(t, "a column", column, right)
				want(t, "a column", e, api.OK)
			}
		}
	}
}

func TestP15_4(t *testing.T) {
	d := &dice{state: 5}
	for i := 0; i < 300; i++ {
		for _, r := range []api.Ring{api.MinPlus, api.OrAnd, api.PlusTimes} {
			a, b, mask := d.three(r)
			got, _ := gemm.Cells(r, csr.Turn(b), csr.Turn(a), csr.Turn(mask))
			all, _ := gemm.Cells(r, a, b, mask)
			for k := range all {
				all[k].Row, all[k].Col = all[k].Col, all[k].Row
			}
			slices.SortFunc(all, func(a, b api.Cell) int { return (a.Row-b.Row)*1000 + a.Col - b.Col })
			want(t, "turned", got, all)
		}
	}
}

func TestP15_5(t *testing.T) {
	d := &dice{state: 6}
	for i := 0; i < 300; i++ {
		for _, r := range allRings {
			a, b, mask := d.three(r)
			k := d.below(a.Cols + 1)
			x, _ := gemm.Cells(r, csr.Cut(a, [2]int{0, a.Rows}, [2]int{0, k}), csr.Cut(b, [2]int{0, k}, [2]int{0, b.Cols}), mask)
			y, _ := gemm.Cells(r, csr.Cut(a, [2]int{0, a.Rows}, [2]int{k, a.Cols}), csr.Cut(b, [2]int{k, b.Rows}, [2]int{0, b.Cols}), mask)
			got, e := gemm.Merge(r, x, y)
			want(t, "parts", got, cells(r, a, b, mask))
			want(t, "parts", e, api.OK)
		}
	}
}

func TestGemmWhatever(t *testing.T) {
	whatever(t, 500, face{"gemm.Cells", gemm.Cells, false}, face{"gemm.Merge", gemm.Merge, false}, face{"gemm.Done", gemm.Done, false},
		face{"gemm.Times", gemm.Times, false}, face{"gemm.Total", gemm.Total, false},
		face{"gemm.Cells and Times of one", func(r api.Ring, a api.Rows) ([]api.Cell, api.Rows, api.Errno) {
			a = csr.Cut(a, [2]int{0, 3}, [2]int{0, 3})
			l, e := gemm.Cells(r, a, a, a)
			m, f := gemm.Times(r, a, a, a)
			if e != api.OK || f != api.OK {
				return nil, api.Rows{}, max(e, f)
			}
			return l, m, api.OK
		}, false})
}
