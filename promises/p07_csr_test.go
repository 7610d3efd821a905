package promises

import (
	"math"
	"slices"
	"testing"

	"fretwork/api"
	"fretwork/csr"
	"fretwork/edges"
)

// rowsOf is the matrix of triples that rise, by other means.
func rowsOf(rows, cols int, l []api.Triple) api.Rows {
	m := api.Rows{Rows: rows, Cols: cols, Start: []int{0}}
	for i := range rows {
		for _, x := range l {
			if x.Row == i {
				m.Col = append(m.Col, x.Col)
				m.Val = append(m.Val, x.Val)
			}
		}
		m.Start = append(m.Start, len(m.Col))
	}
	return m
}

// matrix is a matrix that can be.
func (d *dice) matrix() api.Rows {
	rows, cols := d.below(7), d.below(7)
	return rowsOf(rows, cols, d.triples(rows, cols))
}

// matrixOf is a matrix of so many rows and columns, whose values are factors of a ring.
func (d *dice) matrixOf(r api.Ring, rows, cols int) api.Rows {
	l := d.triples(rows, cols)
	for i := range l {
		l[i].Val = d.factor(r)
	}
	return rowsOf(rows, cols, l)
}

var noMatrix = api.Rows{Start: []int{0}}

// badMatrices can't be, each by one thing.
func badMatrices() []api.Rows {
	good := func() api.Rows {
		return api.Rows{Rows: 2, Cols: 4, Start: []int{0, 2, 3}, Col: []int{0, 2, 1}, Val: []int64{5, 6, 7}}
	}
	var out []api.Rows
	for _, f := range []func(m *api.Rows){
		func(m *api.Rows) { m.Rows = 1 }, func(m *api.Rows) { m.Rows = -1 }, func(m *api.Rows) { m.Rows = 3 }, func(m *api.Rows) { m.Rows = math.MaxInt },
		func(m *api.Rows) { m.Cols = 2 }, func(m *api.Rows) { m.Cols = -1 }, func(m *api.Rows) { m.Cols = 4097 },
		func(m *api.Rows) { m.Start = nil }, func(m *api.Rows) { m.Start = m.Start[:2] }, func(m *api.Rows) { m.Start[0] = 1 }, func(m *api.Rows) { m.Start[0] = -1 },
		func(m *api.Rows) { m.Start[1] = 4 }, func(m *api.Rows) { m.Start[1] = -1 }, func(m *api.Rows) { m.Start[2] = 2 }, func(m *api.Rows) { m.Start[2] = 4 },
		func(m *api.Rows) { m.Col = m.Col[:2] }, func(m *api.Rows) { m.Val = m.Val[:2] }, func(m *api.Rows) { m.Val = append(m.Val, 1) }, func(m *api.Rows) { m.Col = append(m.Col, 3) },
		func(m *api.Rows) { m.Col[0] = -1 }, func(m *api.Rows) { m.Col[1] = 0 }, func(m *api.Rows) { m.Col[0] = 3 }, func(m *api.Rows) { m.Col[2] = 4 }, func(m *api.Rows) { m.Col[2] = math.MinInt },
	} {
		m := good()
		f(&m)
		out = append(out, m)
	}
	many := api.Rows{Rows: 17, Cols: 4096, Start: []int{0}}
	for i := range 17 {
		for k := range 4096 {
			if i < 16 || k == 0 {
				many.Col = append(many.Col, k)
				many.Val = append(many.Val, 1)
			}
		}
		many.Start = append(many.Start, len(many.Col))
	}
	tall := api.Rows{Rows: 4097, Start: make([]int, 4098)}
	return append(out, many, tall, api.Rows{})
}

func init() { maker((*dice).matrix) }

func TestP7_1(t *testing.T) {
	d := &dice{}
	for i := 0; i < 3000; i++ {
		rows, cols := d.between(1, 4), d.between(1, 4)
		var l []api.Triple
		var es []api.Edge
		for n := d.below(10); n > 0; n-- {
			x := api.Triple{Row: d.below(rows), Col: d.below(cols), Val: d.small()}
			if d.below(3) == 0 {
				x.Val = d.odd()
			}
			l = append(l, x)
			es = append(es, api.Edge{From: x.Row, To: x.Col, W: x.Val})
		}
		for _, r := range allRings {
			m, e := csr.Of(r, rows, cols, l)
			sums, se := combined(r, es)
			want(t, "Of's error", e, se)
			var right []api.Triple
			for _, s := range sums {
				right = append(right, api.Triple{Row: s.From, Col: s.To, Val: s.W})
			}
			if e == api.OK {
				want(t, "Of", m, rowsOf(rows, cols, right))
				want(t, "Triples", csr.Triples(m), right)
			} else {
				want(t, "nothing beside an error", m, api.Rows{})
			}
		}
	}
	long := make([]api.Triple, api.MaxEdges+1)
	for _, c := range []struct {
		r          api.Ring
		rows, cols int
		l          []api.Triple
		e          api.Errno
	}{
		{0, -1, 0, long, api.ErrKind}, {6, 1, 1, nil, api.ErrKind}, {1, -1, 1, long, api.ErrRange}, {1, 1, -1, long, api.ErrRange}, {1, 4097, 1, long, api.ErrRange}, {1, 1, 4097, nil, api.ErrRange},
		{1, math.MaxInt, 1, nil, api.ErrRange}, {1, 0, 0, long, api.ErrLong}, {1, 1, 1, long[1:], api.OK}, {1, 4096, 4096, nil, api.OK}, {1, 0, 0, nil, api.OK},
		{5, 2, 2, []api.Triple{{Row: 2}}, api.ErrRange}, {5, 2, 2, []api.Triple{{Row: -1}}, api.ErrRange}, {5, 2, 2, []api.Triple{{Col: 2}}, api.ErrRange}, {5, 2, 2, []api.Triple{{Col: -1}}, api.ErrRange},
		{5, 2, 2, []api.Triple{{Val: math.MaxInt64}, {Val: 1}, {Row: 5}}, api.ErrRange}, {5, 2, 2, []api.Triple{{Val: math.MaxInt64}, {Val: 1}}, api.ErrOver}, {5, 2, 2, []api.Triple{{Val: math.MaxInt64}, {Val: 1}, {Val: -1}}, api.OK},
	} {
		if _, e := csr.Of(c.r, c.rows, c.cols, c.l); e != c.e {
			t.Errorf("Of by %d, of %d, %d, of %d triples: %d, not %d", c.r, c.rows, c.cols, len(c.l), e, c.e)
		}
	}
	m, _ := csr.Of(api.OrAnd, 1, 2, []api.Triple{{Val: 7}})
	want(t, "a lone one stays", m.Val, []int64{7})
	m, _ = csr.Of(api.MinPlus, 1, 2, []api.Triple{{Col: 1, Val: 5}, {Col: 1, Val: 3}})
	want(t, "5 and 3", m, api.Rows{Rows: 1, Cols: 2, Start: []int{0, 1}, Col: []int{1}, Val: []int64{3}})
	for i := 0; i < 500; i++ {
		g := d.graph(6, 12)
		var l []api.Triple
		for _, e := range edges.Turn(g).Edges {
			l = append(l, api.Triple{Row: e.From, Col: e.To, Val: e.W})
		}
		m, e := csr.Graph(g)
		want(t, "Graph", m, rowsOf(g.N, g.N, l))
		want(t, "its error", e, api.OK)
	}
	for _, g := range []api.Graph{{N: -1}, {N: 4097}, {N: 1, Edges: []api.Edge{{To: 1}}}, {N: 1, Edges: []api.Edge{{W: -1}}}} {
		m, e := csr.Graph(g)
		want(t, "Graph's error", e, edges.Right(g))
		want(t, "nothing beside it", m, api.Rows{})
	}
}

func TestP7_2(t *testing.T) {
	d := &dice{state: 2}
	for i := 0; i < 400; i++ {
		m := d.matrix()
		l := csr.Triples(m)
		want(t, "Right", csr.Right(m), true)
		want(t, "Triples", rowsOf(m.Rows, m.Cols, l), m)
		want(t, "Count", csr.Count(m), len(l))
		want(t, "Same", csr.Same(m, rowsOf(m.Rows, m.Cols, l)), true)
		for _, i := range []int{math.MinInt, -1, 0, 1, 2, 5, 6, 7, m.Rows - 1, m.Rows, math.MaxInt} {
			var row []api.Item
			for _, x := range l {
				if x.Row == i {
					row = append(row, api.Item{At: x.Col, Val: x.Val})
				}
			}
			want(t, "Row", csr.Row(m, i), row)
			for _, k := range []int{math.MinInt, -1, 0, 1, 2, 3, 4, 5, 6, 7, math.MaxInt} {
				var right int64
				at := slices.IndexFunc(row, func(x api.Item) bool { return x.At == k })
				if at >= 0 {
					right = row[at].Val
				}
				val, ok := csr.Get(m, i, k)
				want(t, "Get", val, right)
				want(t, "whether there is one", ok, at >= 0)
			}
		}
		var turned []api.Triple
		for k := range m.Cols {
			for _, x := range l {
				if x.Col == k {
					turned = append(turned, api.Triple{Row: k, Col: x.Row, Val: x.Val})
				}
			}
		}
		want(t, "Turn", csr.Turn(m), rowsOf(m.Cols, m.Rows, turned))
		for n := 0; n < 20; n++ {
			var rows, cols [2]int
			for i := range 2 {
				rows[i], cols[i] = d.below(10)-2, d.below(10)-2
				if d.below(6) == 0 {
					rows[i] = int(d.odd())
				}
				if d.below(6) == 0 {
					cols[i] = int(d.odd())
				}
			}
			low, left := max(rows[0], 0), max(cols[0], 0)
			high, right := max(low, min(rows[1], m.Rows)), max(left, min(cols[1], m.Cols))
			var cut []api.Triple
			for _, x := range l {
				if x.Row >= low && x.Row < high && x.Col >= left && x.Col < right {
					cut = append(cut, api.Triple{Row: x.Row - low, Col: x.Col - left, Val: x.Val})
				}
			}
			want(t, "Cut", csr.Cut(m, rows, cols), rowsOf(high-low, right-left, cut))
		}
	}
}

func TestP7_2_same(t *testing.T) {
	m := api.Rows{Rows: 2, Cols: 4, Start: []int{0, 2, 3}, Col: []int{0, 2, 1}, Val: []int64{5, 6, 7}}
	for _, x := range []api.Rows{
		{Rows: 3, Cols: 4, Start: []int{0, 2, 3, 3}, Col: m.Col, Val: m.Val}, {Rows: 2, Cols: 5, Start: m.Start, Col: m.Col, Val: m.Val}, {Rows: 2, Cols: 4, Start: []int{0, 1, 3}, Col: []int{0, 1, 2}, Val: m.Val},
		{Rows: 2, Cols: 4, Start: m.Start, Col: []int{0, 3, 1}, Val: m.Val}, {Rows: 2, Cols: 4, Start: m.Start, Col: m.Col, Val: []int64{5, 6, 8}}, {Rows: 2, Cols: 4, Start: []int{0, 0, 0}}, noMatrix,
		{Rows: 2, Cols: 4, Start: []int{0, 2, 4}, Col: []int{0, 2, 1, 2}, Val: []int64{5, 6, 7, 7}},
		{Rows: 2, Cols: 4, Start: []int{0, 1, 3}, Col: []int{0, 2, 3}, Val: m.Val},
	} {
		want(t, "Same of others", csr.Same(m, x) || csr.Same(x, m), false)
	}
	a := api.Rows{Rows: 1, Cols: 4, Start: []int{0, 1}, Col: []int{1}, Val: []int64{7}}
	b := api.Rows{Rows: 2, Cols: 4, Start: []int{0, 0, 1}, Col: []int{1}, Val: []int64{7}}
	c := api.Rows{Rows: 2, Cols: 4, Start: []int{0, 1, 1}, Col: []int{1}, Val: []int64{7}}
	want(t, "Same of others", csr.Same(a, b) || csr.Same(b, c) || csr.Same(a, c), false)
}

func TestP7_2_wrong(t *testing.T) {
	for i, m := range badMatrices() {
		if csr.Right(m) || len(csr.Triples(m)) > 0 || len(csr.Row(m, 0)) > 0 || csr.Count(m) != 0 {
			t.Errorf("the bad matrix %d can't be", i)
		}
		if v, ok := csr.Get(m, 0, 0); v != 0 || ok {
			t.Errorf("the bad matrix %d has a value", i)
		}
		want(t, "Turn of what can't be", csr.Turn(m), noMatrix)
		want(t, "Cut of what can't be", csr.Cut(m, [2]int{0, 2}, [2]int{0, 2}), noMatrix)
		want(t, "Same of what can't be", csr.Same(m, noMatrix), true)
	}
	for _, m := range []api.Rows{noMatrix, {Rows: 4096, Cols: 4096, Start: make([]int, 4097)}, {Cols: 3, Start: []int{0}}, {Rows: 1, Cols: 0, Start: []int{0, 0}}} {
		want(t, "Right of none", csr.Right(m), true)
	}
}

func TestP7_3(t *testing.T) {
	d := &dice{state: 3}
	for i := 0; i < 300; i++ {
		m := d.matrix()
		for _, r := range allRings {
			got, e := csr.Of(r, m.Rows, m.Cols, csr.Triples(m))
			want(t, "Of of Triples", got, m)
			want(t, "its error", e, api.OK)
		}
		var l []api.Triple
		for n := d.below(30); n > 0; n-- {
			l = append(l, api.Triple{Row: d.below(4), Col: d.below(4), Val: 1})
		}
		m, _ = csr.Of(api.PlusTimes, 4, 4, l)
		l = csr.Triples(m)
		for i := 1; i < len(l); i++ {
			a, b := l[i-1], l[i]
			want(t, "Triples rise", a.Row < b.Row || a.Row == b.Row && a.Col < b.Col, true)
		}
	}
}

func TestP7_4(t *testing.T) {
	d := &dice{state: 4}
	for i := 0; i < 300; i++ {
		m := d.matrix()
		turned := csr.Turn(m)
		want(t, "Turn of Turn", csr.Turn(turned), m)
		for i := range m.Rows {
			for k := range m.Cols {
				a, is := csr.Get(m, i, k)
				b, too := csr.Get(turned, k, i)
				want(t, "Get of Turn", a, b)
				want(t, "Get of Turn", is, too)
			}
		}
	}
}

func TestP7_5(t *testing.T) {
	d := &dice{state: 5}
	for i := 0; i < 300; i++ {
		m := d.matrix()
		i0, i1, k0, k1 := d.below(m.Rows+1), d.below(m.Rows+1), d.below(m.Cols+1), d.below(m.Cols+1)
		cut := csr.Cut(m, [2]int{i0, i1}, [2]int{k0, k1})
		for i := range cut.Rows {
			for k := range cut.Cols {
				a, is := csr.Get(cut, i, k)
				b, too := csr.Get(m, i0+i, k0+k)
				want(t, "Get of Cut", a, b)
				want(t, "Get of Cut", is, too)
			}
		}
		if i0 <= i1 && k0 <= k1 {
			a, b, e, f := d.below(i1-i0+1), d.below(i1-i0+1), d.below(k1-k0+1), d.below(k1-k0+1)
			want(t, "a cut of a cut", csr.Cut(cut, [2]int{a, b}, [2]int{e, f}), csr.Cut(m, [2]int{i0 + a, i0 + b}, [2]int{k0 + e, k0 + f}))
		}
	}
}

func TestP7_6(t *testing.T) {
	d := &dice{state: 6}
	for i := 0; i < 300; i++ {
		g := d.graph(7, 15)
		m, _ := csr.Graph(g)
		for _, e := range edges.Canon(g).Edges {
			val, ok := csr.Get(m, e.To, e.From)
			want(t, "an edge's value", val, e.W)
			want(t, "there is one", ok, true)
		}
		want(t, "no others", csr.Count(m), len(edges.Canon(g).Edges))
	}
}

func TestCsrWhatever(t *testing.T) {
	whatever(t, 400, face{"csr.Of", csr.Of, false}, face{"csr.Triples", csr.Triples, false}, face{"csr.Graph", csr.Graph, false},
		face{"csr.Right", csr.Right, false}, face{"csr.Row", csr.Row, false}, face{"csr.Get", csr.Get, false}, face{"csr.Count", csr.Count, false},
		face{"csr.Turn", csr.Turn, false}, face{"csr.Cut", csr.Cut, false}, face{"csr.Same", csr.Same, false})
}
