package promises

import (
	"math"
	"slices"
	"testing"

	"fretwork/api"
	"fretwork/block"
	"fretwork/csr"
	"fretwork/part"
	"fretwork/spvec"
)

func cutAt(n, k, i int) [2]int { return [2]int{i * n / k, (i + 1) * n / k} }

// blocksOf is all blocks of a matrix.
func blocksOf(m api.Rows, r, c int) []api.Rows {
	var l []api.Rows
	for i := range r {
		for j := range c {
			l = append(l, csr.Cut(m, cutAt(m.Rows, r, i), cutAt(m.Cols, c, j)))
		}
	}
	return l
}

func TestP18_1(t *testing.T) {
	d := &dice{}
	bad := badMatrices()
	for n := 0; n < 400; n++ {
		m := d.matrix()
		r, c := d.between(1, 8), d.between(1, 8)
		for i := range r {
			for j := range c {
				want(t, "Cut", block.Cut(m, r, c, i, j), csr.Cut(m, cutAt(m.Rows, r, i), cutAt(m.Cols, c, j)))
			}
		}
		for _, x := range [][4]int{{0, c, 0, 0}, {9, c, 0, 0}, {r, 0, 0, 0}, {r, 9, 0, 0}, {r, c, -1, 0}, {r, c, r, 0}, {r, c, 0, -1}, {r, c, 0, c}, {r, c, math.MaxInt, 0}, {r, c, 0, math.MinInt}, {-1, -1, 0, 0}} {
			want(t, "Cut of none", block.Cut(m, x[0], x[1], x[2], x[3]), noMatrix)
		}
		l := blocksOf(m, r, c)
		got, e := block.Join(m.Rows, m.Cols, r, c, l)
		want(t, "Join", got, m)
		want(t, "its error", e, api.OK)
		for _, x := range [][4]int{{-1, 0, 1, 1}, {0, -1, 1, 1}, {4097, 0, 1, 1}, {0, 4097, 1, 1}, {0, 0, 0, 1}, {0, 0, 9, 1}, {0, 0, 1, 0}, {0, 0, 1, 9}} {
			got, e = block.Join(x[0], x[1], x[2], x[3], l)
			want(t, "Join's error", e, api.ErrRange)
			want(t, "nothing beside it", got, api.Rows{})
		}
		spoilt := slices.Clone(l)
		at := d.below(len(l))
		spoilt[at].Rows++
		spoilt[at].Start = append(slices.Clone(spoilt[at].Start), len(spoilt[at].Col))
		for _, wrong := range [][]api.Rows{l[1:], append(slices.Clone(l), noMatrix), nil, spoilt, append(slices.Clone(l[1:]), bad[0])} {
			got, e = block.Join(m.Rows, m.Cols, r, c, wrong)
			want(t, "Join's error", e, api.ErrSize)
			want(t, "nothing beside it", got, api.Rows{})
		}
		spoilt = slices.Clone(l)
		spoilt[at].Cols++
		_, e = block.Join(m.Rows, m.Cols, r, c, spoilt)
		want(t, "Join's error", e, api.ErrSize)
	}
	for _, m := range bad {
		want(t, "Cut of what can't be", block.Cut(m, 1, 1, 0, 0), noMatrix)
	}
	_, e := block.Join(0, 0, 1, 1, []api.Rows{{}})
	want(t, "a block that can't be", e, api.ErrSize)
}

// sliceAt is where a slice begins and ends.
func sliceAt(n, r, c, i, j int) [2]int {
	a, b := cutAt(n, r, i), cutAt(n, c, j)
	from, to := max(a[0], b[0]), min(a[1], b[1])
	return [2]int{from, max(from, to)}
}

func TestP18_2(t *testing.T) {
	d := &dice{state: 2}
	for x := 0; x < 500; x++ {
		n, r, c := d.below(13), d.between(1, 8), d.between(1, 8)
		v := d.vec(api.PlusTimes, n)
		var pieces []api.Vec
		for i := range r {
			at := cutAt(n, r, i)
			piece := spvec.Part(v, at[0], at[1])
			pieces = append(pieces, piece)
			want(t, "Piece", block.Piece(v, r, i), piece)
			for j := range c {
				s := sliceAt(n, r, c, i, j)
				want(t, "Slice", block.Slice(piece, n, r, c, i, j), spvec.Part(v, s[0], s[1]))
			}
			want(t, "Slice of another size", block.Slice(api.Vec{N: piece.N + 1, Items: piece.Items}, n, r, c, i, 0), api.Vec{})
		}
		for _, y := range [][2]int{{0, 0}, {9, 0}, {-1, 0}, {r, -1}, {r, r}, {r, math.MaxInt}, {r, math.MinInt}} {
			want(t, "Piece of none", block.Piece(v, y[0], y[1]), api.Vec{})
		}
		got, e := block.Glue(n, r, pieces)
		want(t, "Glue", got, v)
		want(t, "its error", e, api.OK)
		for j := range c {
			var l []api.Vec
			for i := range r {
				s := sliceAt(n, r, c, i, j)
				l = append(l, spvec.Part(v, s[0], s[1]))
			}
			at := cutAt(n, c, j)
			got, e = block.Fit(n, r, c, j, l)
			want(t, "Fit", got, spvec.Part(v, at[0], at[1]))
			want(t, "its error", e, api.OK)
			k := d.below(r)
			for _, bad := range []api.Vec{{N: l[k].N + 1, Items: l[k].Items}, {N: l[k].N - 1}, {N: l[k].N, Items: []api.Item{{At: -1}}}} {
				wrong := slices.Clone(l)
				wrong[k] = bad
				got, e = block.Fit(n, r, c, j, wrong)
				want(t, "Fit's error", e, api.ErrSize)
				want(t, "nothing beside it", got, api.Vec{})
			}
			_, e = block.Fit(n, r, c, j, l[1:])
			want(t, "Fit's error", e, api.ErrSize)
			_, e = block.Fit(n, r, c, j, append(slices.Clone(l), api.Vec{}))
			want(t, "Fit's error", e, api.ErrSize)
		}
		k := d.below(r)
		for _, bad := range []api.Vec{{N: pieces[k].N + 1}, {N: -1}, {N: pieces[k].N, Items: []api.Item{{At: -1}}}} {
			wrong := slices.Clone(pieces)
			wrong[k] = bad
			got, e = block.Glue(n, r, wrong)
			want(t, "Glue's error", e, api.ErrSize)
			want(t, "nothing beside it", got, api.Vec{})
		}
		_, e = block.Glue(n, r, pieces[1:])
		want(t, "Glue's error", e, api.ErrSize)
	}
}

func TestP18_2_wrong(t *testing.T) {
	v := spvec.Fill(4, 1)
	for _, x := range [][2]int{{-1, 1}, {4097, 1}, {4, 0}, {4, 9}, {math.MaxInt, math.MaxInt}} {
		_, e := block.Glue(x[0], x[1], nil)
		want(t, "Glue's error", e, api.ErrRange)
		_, e = block.Fit(x[0], x[1], 1, 0, nil)
		want(t, "Fit's error", e, api.ErrRange)
		_, e = block.Fit(x[0], 1, x[1], 0, []api.Vec{v})
		want(t, "Fit's error", e, api.ErrRange)
		want(t, "Slice of none", block.Slice(v, x[0], x[1], 1, 0, 0), api.Vec{})
	}
	want(t, "Slice of too many columns", block.Slice(v, 4, 1, 9, 0, 0), api.Vec{})
	want(t, "Slice of no columns", block.Slice(v, 4, 1, 0, 0, 0), api.Vec{})
	want(t, "Slice of no row", block.Slice(v, 4, 1, 1, 1, 0), api.Vec{})
	want(t, "Slice of no row", block.Slice(v, 4, 1, 1, -1, 0), api.Vec{})
	want(t, "Slice of no column", block.Slice(v, 4, 1, 1, 0, 1), api.Vec{})
	want(t, "Slice of no column", block.Slice(v, 4, 1, 1, 0, -1), api.Vec{})
	want(t, "Slice of all", block.Slice(v, 4, 1, 1, 0, 0), v)
	most := spvec.Fill(4096, 1)
	for name, f := range map[string]func() (api.Vec, api.Errno){
		"Glue": func() (api.Vec, api.Errno) { return block.Glue(4096, 1, []api.Vec{most}) }, "Fit": func() (api.Vec, api.Errno) { return block.Fit(4096, 1, 1, 0, []api.Vec{most}) },
		"Piece": func() (api.Vec, api.Errno) { return block.Piece(most, 1, 0), api.OK }, "Slice": func() (api.Vec, api.Errno) { return block.Slice(most, 4096, 1, 1, 0, 0), api.OK },
	} {
		got, e := f()
		want(t, name+" of as many as there may be", got, most)
		want(t, name+" of as many as there may be", e, api.OK)
	}
	m, e := block.Join(4096, 4096, 1, 1, []api.Rows{{Rows: 4096, Cols: 4096, Start: make([]int, 4097)}})
	want(t, "Join of as many as there may be", m.Rows, 4096)
	want(t, "Join of as many as there may be", e, api.OK)
	for _, j := range []int{-1, 2, math.MaxInt, math.MinInt} {
		_, e := block.Fit(4, 1, 2, j, []api.Vec{v})
		want(t, "Fit's error", e, api.ErrRange)
	}
	for _, bad := range badVecs() {
		want(t, "Piece of what can't be", block.Piece(bad, 1, 0), api.Vec{})
		want(t, "Slice of what can't be", block.Slice(bad, bad.N, 1, 1, 0, 0), api.Vec{})
		_, e := block.Glue(0, 1, []api.Vec{bad})
		want(t, "Glue of what can't be", e, api.ErrSize)
		_, e = block.Fit(0, 1, 1, 0, []api.Vec{bad})
		want(t, "Fit of what can't be", e, api.ErrSize)
	}
}

func TestP18_3(t *testing.T) {
	d := &dice{state: 3}
	for i := 0; i < 200; i++ {
		for _, r := range allRings {
			m := d.matrixOf(r, d.below(7), d.below(7))
			v := d.vec(r, m.Cols)
			got, e := block.Times(r, m, v, d.between(1, 8), d.between(1, 8))
			want(t, "Times", got, sums(r, m, v, nil, true))
			want(t, "its error", e, api.OK)
		}
	}
	m, v := full(2, 3), api.Vec{N: 3, Items: []api.Item{{Val: 1}}}
	for _, r := range noRings {
		_, e := block.Times(r, m, api.Vec{}, 0, 0)
		want(t, "no ring", e, api.ErrKind)
	}
	for _, k := range wrongParts {
		_, e := block.Times(1, m, api.Vec{}, k, 1)
		want(t, "rows", e, api.ErrRange)
		_, e = block.Times(1, m, api.Vec{}, 1, k)
		want(t, "columns", e, api.ErrRange)
	}
	_, e := block.Times(1, m, api.Vec{N: 2}, 1, 1)
	want(t, "sizes", e, api.ErrSize)
	for _, bad := range badMatrices() {
		_, e = block.Times(1, bad, v, 2, 2)
		want(t, "a matrix that can't be", e, api.ErrSize)
		_, e = block.Times(1, bad, api.Vec{}, 2, 2)
		want(t, "a matrix that can't be", e, api.OK)
	}
	for _, bad := range badVecs() {
		_, e = block.Times(1, m, bad, 2, 2)
		want(t, "a vector that can't be", e, api.ErrSize)
		_, e = block.Times(1, rowsOf(2, 0, nil), bad, 2, 2)
		want(t, "a vector that can't be", e, api.OK)
	}
}

func TestP18_4(t *testing.T) {
	d := &dice{state: 4}
	for x := 0; x < 200; x++ {
		m, r, c := d.matrix(), d.between(1, 8), d.between(1, 8)
		var l []api.Rows
		for i := range r {
			for j := range c {
				l = append(l, block.Cut(m, r, c, i, j))
			}
		}
		got, e := block.Join(m.Rows, m.Cols, r, c, l)
		want(t, "Join of all blocks", got, m)
		want(t, "its error", e, api.OK)
		v := d.vec(api.PlusTimes, d.places())
		var pieces []api.Vec
		for i := range r {
			pieces = append(pieces, block.Piece(v, r, i))
		}
		glued, e := block.Glue(v.N, r, pieces)
		want(t, "Glue of all pieces", glued, v)
		want(t, "its error", e, api.OK)
	}
}

func TestP18_5(t *testing.T) {
	d := &dice{state: 5}
	for x := 0; x < 300; x++ {
		v, r, c := d.vec(api.PlusTimes, d.places()), d.between(1, 8), d.between(1, 8)
		for j := range c {
			var l []api.Vec
			for i := range r {
				l = append(l, block.Slice(block.Piece(v, r, i), v.N, r, c, i, j))
			}
			got, e := block.Fit(v.N, r, c, j, l)
			want(t, "Fit of the slices", got, block.Piece(v, c, j))
			want(t, "its error", e, api.OK)
		}
	}
}

func TestP18_6(t *testing.T) {
	d := &dice{state: 6}
	for i := 0; i < 200; i++ {
		for _, r := range allRings {
			m := d.matrixOf(r, d.below(9), d.below(9))
			v := d.vec(r, m.Cols)
			one, _ := block.Times(r, m, v, 1, 1)
			many, _ := block.Times(r, m, v, d.between(1, 8), d.between(1, 8))
			want(t, "in however many blocks", many, one)
		}
	}
	want(t, "5 places in 2 parts", [2]int{part.Size(5, 2, 0), block.Piece(spvec.Fill(5, 1), 2, 1).N}, [2]int{2, 3})
}

func TestBlockWhatever(t *testing.T) {
	whatever(t, 600, face{"block.Cut", block.Cut, false}, face{"block.Join", block.Join, false}, face{"block.Piece", block.Piece, false}, face{"block.Slice", block.Slice, false},
		face{"block.Glue", block.Glue, false}, face{"block.Fit", block.Fit, false}, face{"block.Times", block.Times, false},
		face{"block.Cut of few", func(m api.Rows, v api.Vec, d uint64) (api.Rows, api.Vec, api.Vec) {
			r, c := int(d%4)+1, int(d/4%4)+1
			return block.Cut(m, r, c, 0, c-1), block.Piece(v, r, r-1), block.Slice(v, v.N, 1, c, 0, c-1)
		}, false})
}
