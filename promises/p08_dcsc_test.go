package promises

import (
	"math"
	"testing"

	"fretwork/api"
	"fretwork/csr"
	"fretwork/dcsc"
)

// columnsOf is a matrix by its columns, by other means.
func columnsOf(m api.Rows) api.Columns {
	c := api.Columns{Rows: m.Rows, Cols: m.Cols, Start: []int{0}}
	l := csr.Triples(m)
	for k := range m.Cols {
		many := len(c.Row)
		for _, x := range l {
			if x.Col == k {
				c.Row = append(c.Row, x.Row)
				c.Val = append(c.Val, x.Val)
			}
		}
		if len(c.Row) > many {
			c.At = append(c.At, k)
			c.Start = append(c.Start, len(c.Row))
		}
	}
	return c
}

var noColumns = api.Columns{Start: []int{0}}

// badColumns can't be, each by one thing.
func badColumns() []api.Columns {
	good := func() api.Columns {
		return api.Columns{Rows: 4, Cols: 5, At: []int{1, 3}, Start: []int{0, 2, 3}, Row: []int{0, 2, 1}, Val: []int64{5, 6, 7}}
	}
	var out []api.Columns
	for _, f := range []func(c *api.Columns){
		func(c *api.Columns) { c.Rows = -1 }, func(c *api.Columns) { c.Rows = 2 }, func(c *api.Columns) { c.Rows = 4097 }, func(c *api.Columns) { c.Cols = 3 }, func(c *api.Columns) { c.Cols = -1 }, func(c *api.Columns) { c.Cols = math.MaxInt },
		func(c *api.Columns) { c.At = c.At[:1] }, func(c *api.Columns) { c.At[1] = 1 }, func(c *api.Columns) { c.At[0] = -1 }, func(c *api.Columns) { c.At[0] = 4 }, func(c *api.Columns) { c.At[1] = 5 },
		func(c *api.Columns) { c.Start = nil }, func(c *api.Columns) { c.Start = c.Start[:2] }, func(c *api.Columns) { c.Start[0] = 1 }, func(c *api.Columns) { c.Start[0] = -1 }, func(c *api.Columns) { c.Start[1] = 0 }, func(c *api.Columns) { c.Start[1] = 3 }, func(c *api.Columns) { c.Start[1] = 4 }, func(c *api.Columns) { c.Start[1] = -1 }, func(c *api.Columns) { c.Start[2] = 4 },
		func(c *api.Columns) { c.Row = c.Row[:2] }, func(c *api.Columns) { c.Val = c.Val[:2] }, func(c *api.Columns) { c.Val = append(c.Val, 1) }, func(c *api.Columns) { c.Row = append(c.Row, 3) },
		func(c *api.Columns) { c.Row[0] = 2 }, func(c *api.Columns) { c.Row[0] = -1 }, func(c *api.Columns) { c.Row[2] = 4 }, func(c *api.Columns) { c.Row[1] = 4 },
		func(c *api.Columns) { c.Start = []int{0, 1, 2} }, func(c *api.Columns) { c.Start, c.Row = []int{0, 0, 3}, []int{0, 1, 2} },
	} {
		c := good()
		f(&c)
		out = append(out, c)
	}
	many := api.Columns{Rows: 4096, Cols: 17, Start: []int{0}}
	for k := range 17 {
		many.At = append(many.At, k)
		for i := range 4096 {
			if k < 16 || i == 0 {
				many.Row = append(many.Row, i)
				many.Val = append(many.Val, 1)
			}
		}
		many.Start = append(many.Start, len(many.Row))
	}
	return append(out, many, api.Columns{})
}

func init() { maker(func(d *dice) api.Columns { return columnsOf(d.matrix()) }) }

func TestP8_1(t *testing.T) {
	d := &dice{}
	for i := 0; i < 500; i++ {
		m := d.matrix()
		c := columnsOf(m)
		want(t, "Of", dcsc.Of(m), c)
		want(t, "Back", dcsc.Back(c), m)
		want(t, "Right", dcsc.Right(c), true)
	}
	for _, m := range badMatrices() {
		want(t, "Of what can't be", dcsc.Of(m), noColumns)
	}
	for i, c := range badColumns() {
		if dcsc.Right(c) {
			t.Errorf("the bad matrix %d can't be", i)
		}
		want(t, "Back of what can't be", dcsc.Back(c), noMatrix)
	}
	for _, c := range []api.Columns{noColumns, {Rows: 4096, Cols: 4096, Start: []int{0}}} {
		want(t, "Right of none", dcsc.Right(c), true)
	}
	full := crowd(256, api.MaxEdges)
	m, _ := csr.Graph(full)
	want(t, "as many as there may be", dcsc.Count(dcsc.Of(m)), api.MaxEdges)
}

func TestP8_2(t *testing.T) {
	d := &dice{state: 2}
	for i := 0; i < 500; i++ {
		m := d.matrix()
		c := columnsOf(m)
		want(t, "Many", dcsc.Many(c), len(c.At))
		want(t, "Count", dcsc.Count(c), len(c.Row))
		want(t, "Same", dcsc.Same(c, columnsOf(m)), true)
		var at []int
		work := 0
		for n := 0; n < 12; n++ {
			k := d.below(10) - 2
			if d.below(8) == 0 {
				k = int(d.odd())
			}
			at = append(at, k)
			var column []api.Item
			for _, x := range csr.Triples(m) {
				if x.Col == k {
					column = append(column, api.Item{At: x.Row, Val: x.Val})
					work++
				}
			}
			want(t, "Column", dcsc.Column(c, k), column)
		}
		want(t, "Work", dcsc.Work(c, at), work)
	}
	c := api.Columns{Rows: 4, Cols: 5, At: []int{1, 3}, Start: []int{0, 2, 3}, Row: []int{0, 2, 1}, Val: []int64{5, 6, 7}}
	for _, x := range []api.Columns{
		{Rows: 5, Cols: 5, At: c.At, Start: c.Start, Row: c.Row, Val: c.Val}, {Rows: 4, Cols: 6, At: c.At, Start: c.Start, Row: c.Row, Val: c.Val},
		{Rows: 4, Cols: 5, At: []int{1, 2}, Start: c.Start, Row: c.Row, Val: c.Val}, {Rows: 4, Cols: 5, At: c.At, Start: []int{0, 1, 3}, Row: []int{0, 1, 2}, Val: c.Val},
		{Rows: 4, Cols: 5, At: c.At, Start: c.Start, Row: []int{0, 3, 1}, Val: c.Val}, {Rows: 4, Cols: 5, At: c.At, Start: c.Start, Row: c.Row, Val: []int64{5, 6, 8}}, noColumns,
	} {
		want(t, "Same of others", dcsc.Same(c, x) || dcsc.Same(x, c), false)
	}
	a := api.Columns{Rows: 4, Cols: 5, At: []int{1, 3}, Start: []int{0, 1, 3}, Row: []int{0, 1, 2}, Val: []int64{5, 6, 7}}
	b := api.Columns{Rows: 4, Cols: 5, At: []int{1, 3}, Start: []int{0, 2, 3}, Row: []int{0, 1, 2}, Val: []int64{5, 6, 7}}
	want(t, "Same of others", dcsc.Same(a, b), false)
	for i, c := range badColumns() {
		if len(dcsc.Column(c, 1)) > 0 || dcsc.Many(c) != 0 || dcsc.Count(c) != 0 || dcsc.Work(c, []int{0, 1, 2, 3}) != 0 || !dcsc.Same(c, noColumns) {
			t.Errorf("the bad matrix %d has something", i)
		}
	}
}

func TestP8_3(t *testing.T) {
	d := &dice{state: 3}
	for i := 0; i < 300; i++ {
		m := d.matrix()
		want(t, "Back of Of", dcsc.Back(dcsc.Of(m)), m)
		c := columnsOf(m)
		want(t, "Of of Back", dcsc.Of(dcsc.Back(c)), c)
	}
}

func TestP8_4(t *testing.T) {
	d := &dice{state: 4}
	for i := 0; i < 300; i++ {
		m := d.matrix()
		for k := -1; k <= m.Cols; k++ {
			want(t, "a column", dcsc.Column(dcsc.Of(m), k), csr.Row(csr.Turn(m), k))
		}
	}
}

func TestP8_5(t *testing.T) {
	d := &dice{state: 5}
	for i := 0; i < 300; i++ {
		m := d.matrix()
		c := dcsc.Of(m)
		var all []int
		for k := range m.Cols {
			all = append(all, k)
		}
		for _, k := range c.At {
			want(t, "no column is empty", len(dcsc.Column(c, k)) > 0, true)
		}
		want(t, "never more than values", dcsc.Many(c) <= dcsc.Count(c), true)
		want(t, "Work of all", dcsc.Work(c, all), dcsc.Count(c))
	}
	m, _ := csr.Of(api.MinPlus, 1, 1000, []api.Triple{{Col: 500, Val: 1}})
	want(t, "one value in 1000 columns", dcsc.Many(dcsc.Of(m)), 1)
}

func TestDcscWhatever(t *testing.T) {
	whatever(t, 400, face{"dcsc.Of", dcsc.Of, false}, face{"dcsc.Back", dcsc.Back, false}, face{"dcsc.Right", dcsc.Right, false},
		face{"dcsc.Column", dcsc.Column, false}, face{"dcsc.Many", dcsc.Many, false}, face{"dcsc.Count", dcsc.Count, false},
		face{"dcsc.Work", dcsc.Work, false}, face{"dcsc.Same", dcsc.Same, false})
}
