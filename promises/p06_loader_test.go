package promises

import (
	"encoding/binary"
	"math"
	"slices"
	"testing"

	"fretwork/api"
	"fretwork/edges"
	"fretwork/loader"
)

func words32(b []byte, l ...int) []byte {
	for _, n := range l {
		b = binary.LittleEndian.AppendUint32(b, uint32(n))
	}
	return b
}

// graphBytes is a graph's bytes, by other means.
func graphBytes(g api.Graph, weighty byte) []byte {
	b := append([]byte("FRT1"), weighty)
	b = words32(b, g.N, len(g.Edges))
	for _, e := range g.Edges {
		b = words32(b, e.From, e.To)
		if weighty == 1 {
			b = words32(b, int(e.W))
		}
	}
	return b
}

func isPlain(g api.Graph) bool {
	return !slices.ContainsFunc(g.Edges, func(e api.Edge) bool { return e.W != 1 })
}

func TestP6_1(t *testing.T) {
	d := &dice{}
	for i := 0; i < 1000; i++ {
		g := d.graph(7, 12)
		if d.coin() {
			g = edges.Plain(g)
		}
		if d.coin() {
			g = edges.Canon(g)
		}
		b, e := loader.Encode(g)
		switch {
		case !edges.Rises(g.Edges):
			want(t, "Encode of what does not rise", e, api.ErrOrder)
		case isPlain(g):
			want(t, "Encode", b, graphBytes(g, 0))
		default:
			want(t, "Encode", b, graphBytes(g, 1))
		}
		for weighty := byte(0); weighty < 2; weighty++ {
			got, f := loader.Decode(graphBytes(g, weighty))
			right := edges.Canon(g)
			if weighty == 0 {
				right = edges.Plain(g)
			}
			want(t, "Decode", got, right)
			want(t, "Decode's fault", f, api.Fault{})
		}
	}
	for e, g := range map[api.Errno]api.Graph{
		api.ErrRange: {N: 2, Edges: []api.Edge{{From: 1}, {From: 2, W: -1}}}, api.ErrValue: {N: 2, Edges: []api.Edge{{From: 1, W: -1}, {From: 0}}},
		api.ErrLong: {N: api.MaxVerts + 1}, api.ErrOrder: {N: 2, Edges: []api.Edge{{From: 1}, {From: 0}}},
	} {
		b, got := loader.Encode(g)
		want(t, "Encode's error", got, e)
		want(t, "nothing beside it", b, nil)
	}
}

func changed(b []byte, at int, with ...byte) []byte {
	out := slices.Clone(b)
	copy(out[at:], with)
	return out
}

func TestP6_1_faults(t *testing.T) {
	plain := graphBytes(api.Graph{N: 3, Edges: []api.Edge{{From: 0, To: 1}, {From: 2, To: 2}}}, 0)
	heavy := graphBytes(api.Graph{N: 3, Edges: []api.Edge{{From: 0, To: 1, W: 5}, {From: 2, To: 2, W: api.MaxWeight}}}, 1)
	for _, c := range []struct {
		name string
		b    []byte
		f    api.Fault
	}{
		{"nothing", nil, api.Fault{Errno: api.ErrShort}},
		{"three others", []byte("XYZ"), api.Fault{Errno: api.ErrShort, At: 3}},
		{"FRT2", changed(plain, 0, []byte("FRT2")...), api.Fault{Errno: api.ErrMagic}},
		{"FRT2 and nothing", []byte("FRT2"), api.Fault{Errno: api.ErrMagic}},
		{"a matrix", changed(plain, 0, []byte("FRM1")...), api.Fault{Errno: api.ErrMagic}},
		{"a kind", changed(plain, 4, 2), api.Fault{Errno: api.ErrKind, At: 4}},
		{"a kind, and too many", changed(plain, 4, 2, 1, 32), api.Fault{Errno: api.ErrKind, At: 4}},
		{"a kind, and nothing", []byte("FRT1\x02"), api.Fault{Errno: api.ErrKind, At: 4}},
		{"too many vertices", changed(plain, 5, words32(nil, 4097)...), api.Fault{Errno: api.ErrLong, At: 5}},
		{"too many vertices, and nothing", words32([]byte("FRT1\x00"), 1<<31), api.Fault{Errno: api.ErrLong, At: 5}},
		{"too many vertices and edges", changed(plain, 5, words32(nil, 4097, 65537)...), api.Fault{Errno: api.ErrLong, At: 5}},
		{"too many edges", changed(plain, 9, words32(nil, 65537)...), api.Fault{Errno: api.ErrLong, At: 9}},
		{"too many edges, and nothing", words32([]byte("FRT1\x00"), 3, 1<<32-1), api.Fault{Errno: api.ErrLong, At: 9}},
		{"many edges, and nothing", words32([]byte("FRT1\x00"), 3, 65536), api.Fault{Errno: api.ErrShort, At: 13}},
		{"a From", changed(plain, 13, 3), api.Fault{Errno: api.ErrRange, At: 13}},
		{"a From and its To", changed(plain, 13, words32(nil, 3, 3)...), api.Fault{Errno: api.ErrRange, At: 13}},
		{"a To", changed(plain, 17, 3), api.Fault{Errno: api.ErrRange, At: 17}},
		{"a second From", changed(plain, 21, 255, 255, 255, 255), api.Fault{Errno: api.ErrRange, At: 21}},
		{"a second To", changed(plain, 25, 4), api.Fault{Errno: api.ErrRange, At: 25}},
		{"no vertices", changed(plain, 5, 0), api.Fault{Errno: api.ErrRange, At: 13}},
		{"a From, and nothing", words32([]byte("FRT1\x00"), 3, 1, 9), api.Fault{Errno: api.ErrRange, At: 13}},
		{"more behind", append(slices.Clone(plain), 0), api.Fault{Errno: api.ErrSize, At: 29}},
		{"a W", changed(heavy, 21, 0, 0, 0, 128), api.Fault{Errno: api.ErrValue, At: 21}},
		{"a W and the next From", changed(heavy, 21, 255, 255, 255, 255, 9), api.Fault{Errno: api.ErrValue, At: 21}},
		{"a second From", changed(heavy, 25, 3), api.Fault{Errno: api.ErrRange, At: 25}},
		{"a second W", changed(heavy, 36, 128), api.Fault{Errno: api.ErrValue, At: 33}},
		{"more behind", append(slices.Clone(heavy), 1, 2), api.Fault{Errno: api.ErrSize, At: 37}},
	} {
		g, f := loader.Decode(c.b)
		want(t, c.name, f, c.f)
		want(t, c.name+": nothing beside it", g, api.Graph{})
		want(t, c.name+" is not Canon", loader.Canon(c.b), false)
	}
	full := crowd(256, api.MaxEdges)
	g, f := loader.Decode(graphBytes(full, 0))
	want(t, "as many edges as there may be", f, api.Fault{})
	want(t, "all of them", len(g.Edges), api.MaxEdges)
	g, f = loader.Decode(graphBytes(api.Graph{N: api.MaxVerts}, 0))
	want(t, "as many vertices as there may be", f, api.Fault{})
	want(t, "all of them", g.N, api.MaxVerts)
	for _, c := range []struct {
		b  []byte
		is bool
	}{
		{plain, true}, {heavy, true},
		{graphBytes(api.Graph{N: 2, Edges: []api.Edge{{From: 1}, {From: 0}}}, 0), false},
		{graphBytes(api.Graph{N: 2, Edges: []api.Edge{{From: 1}, {From: 1}}}, 0), false},
		{graphBytes(api.Graph{N: 2, Edges: []api.Edge{{From: 1, W: 1}}}, 1), false},
		{graphBytes(api.Graph{N: 2}, 1), false}, {graphBytes(api.Graph{N: 2}, 0), true},
	} {
		want(t, "Canon", loader.Canon(c.b), c.is)
	}
}

func matrixBytes(rows, cols int, l []api.Triple) []byte {
	b := words32([]byte("FRM1"), rows, cols, len(l))
	for _, x := range l {
		b = binary.LittleEndian.AppendUint64(words32(b, x.Row, x.Col), uint64(x.Val))
	}
	return b
}

// triples is triples of so many rows and columns, rising.
func (d *dice) triples(rows, cols int) []api.Triple {
	var l []api.Triple
	for i := range rows {
		for k := range cols {
			if d.below(3) == 0 {
				l = append(l, api.Triple{Row: i, Col: k, Val: d.odd()})
			}
		}
	}
	return l
}

func TestP6_2(t *testing.T) {
	d := &dice{state: 2}
	for i := 0; i < 500; i++ {
		rows, cols := d.below(6), d.below(6)
		l := d.triples(rows, cols)
		b, e := loader.EncodeMatrix(rows, cols, l)
		want(t, "EncodeMatrix", b, matrixBytes(rows, cols, l))
		want(t, "its error", e, api.OK)
		r, c, got, f := loader.DecodeMatrix(matrixBytes(rows, cols, l))
		want(t, "DecodeMatrix", got, l)
		want(t, "rows and columns", [2]int{r, c}, [2]int{rows, cols})
		want(t, "its fault", f, api.Fault{})
	}
	long := make([]api.Triple, api.MaxEdges+1)
	for _, c := range []struct {
		rows, cols int
		l          []api.Triple
		e          api.Errno
	}{
		{-1, 5000, long, api.ErrRange}, {1, -1, long, api.ErrRange}, {math.MinInt, 0, nil, api.ErrRange},
		{4097, 1, []api.Triple{{Row: -1}}, api.ErrLong}, {1, 4097, nil, api.ErrLong}, {1, 1, long, api.ErrLong}, {1, 1, long[1:], api.ErrOrder},
		{4096, 4096, nil, api.OK}, {0, 0, nil, api.OK},
		{2, 2, []api.Triple{{Row: 2}}, api.ErrRange}, {2, 2, []api.Triple{{Col: 2}}, api.ErrRange}, {2, 2, []api.Triple{{Row: -1}}, api.ErrRange}, {2, 2, []api.Triple{{Col: -1}}, api.ErrRange},
		{2, 2, []api.Triple{{Row: 1}, {Row: 0}, {Row: 2}}, api.ErrRange}, {2, 2, []api.Triple{{Row: 1}, {Row: 0, Col: 1}}, api.ErrOrder},
		{2, 2, []api.Triple{{Row: 1}, {Row: 1}}, api.ErrOrder}, {2, 2, []api.Triple{{Row: 1, Col: 1}, {Row: 1}}, api.ErrOrder}, {2, 2, []api.Triple{{Row: 0, Col: 1}, {Row: 1}}, api.OK},
		{0, 1, []api.Triple{{}}, api.ErrRange}, {1, 0, []api.Triple{{}}, api.ErrRange},
	} {
		b, e := loader.EncodeMatrix(c.rows, c.cols, c.l)
		if e != c.e || e != api.OK && len(b) > 0 {
			t.Errorf("EncodeMatrix of %d, %d, and %d triples: %d, not %d", c.rows, c.cols, len(c.l), e, c.e)
		}
	}
	m := matrixBytes(2, 3, []api.Triple{{Row: 0, Col: 1, Val: -5}, {Row: 1, Col: 0, Val: 7}})
	for _, c := range []struct {
		name string
		b    []byte
		f    api.Fault
	}{
		{"nothing", nil, api.Fault{Errno: api.ErrShort}},
		{"two others", []byte("XY"), api.Fault{Errno: api.ErrShort, At: 2}},
		{"FRT1", changed(m, 0, []byte("FRT1")...), api.Fault{Errno: api.ErrMagic}},
		{"rows", changed(m, 4, words32(nil, 4097, 4097)...), api.Fault{Errno: api.ErrLong, At: 4}},
		{"columns", changed(m, 8, words32(nil, 4097, 65537)...), api.Fault{Errno: api.ErrLong, At: 8}},
		{"triples", changed(m, 12, words32(nil, 65537)...), api.Fault{Errno: api.ErrLong, At: 12}},
		{"a row", changed(m, 16, words32(nil, 2, 3)...), api.Fault{Errno: api.ErrRange, At: 16}},
		{"a column", changed(m, 20, 3), api.Fault{Errno: api.ErrRange, At: 20}},
		{"a second row", changed(m, 32, 2), api.Fault{Errno: api.ErrRange, At: 32}},
		{"a second column, and its order", changed(m, 32, words32(nil, 0, 3)...), api.Fault{Errno: api.ErrRange, At: 36}},
		{"the order", changed(m, 32, words32(nil, 0, 0)...), api.Fault{Errno: api.ErrOrder, At: 32}},
		{"the same place", changed(m, 32, words32(nil, 0, 1)...), api.Fault{Errno: api.ErrOrder, At: 32}},
		{"the order, but no value", changed(m, 32, words32(nil, 0, 0)...)[:45], api.Fault{Errno: api.ErrShort, At: 45}},
		{"more behind", append(slices.Clone(m), 7), api.Fault{Errno: api.ErrSize, At: 48}},
		{"no rows", changed(m, 4, 0), api.Fault{Errno: api.ErrRange, At: 16}},
	} {
		r, k, l, f := loader.DecodeMatrix(c.b)
		want(t, c.name, f, c.f)
		want(t, c.name+": nothing beside it", l, nil)
		want(t, c.name+": nothing beside it", r+k, 0)
	}
	r, k, l, f := loader.DecodeMatrix(matrixBytes(4096, 4096, nil))
	if r != 4096 || k != 4096 || len(l) > 0 || f.Errno != api.OK {
		t.Error("as many rows and columns as there may be")
	}
	_, _, l, f = loader.DecodeMatrix(changed(m, 32, words32(nil, 0, 2)...))
	want(t, "the next column", f, api.Fault{})
	want(t, "the next column", l, []api.Triple{{Row: 0, Col: 1, Val: -5}, {Row: 0, Col: 2, Val: 7}})
}

func TestP6_3(t *testing.T) {
	d := &dice{state: 3}
	for i := 0; i < 500; i++ {
		g := edges.Canon(d.graph(9, 30))
		b, e := loader.Encode(g)
		want(t, "Encode", e, api.OK)
		got, f := loader.Decode(b)
		want(t, "Decode of Encode", got, g)
		want(t, "its fault", f, api.Fault{})
		want(t, "Canon", loader.Canon(b), true)
		again, e := loader.Encode(got)
		want(t, "Encode of Decode", again, b)
		want(t, "Encode", e, api.OK)
	}
}

func TestP6_4(t *testing.T) {
	d := &dice{state: 4}
	told := 0
	for i := 0; i < 5000; i++ {
		b, _ := loader.Encode(edges.Canon(d.graph(5, 6)))
		for n := d.below(3); n >= 0; n-- {
			b[d.below(len(b))] = byte(d.below(5))
		}
		g, f := loader.Decode(b)
		if f.Errno != api.OK {
			want(t, "nothing is told", g, api.Graph{})
			want(t, "the place", f.At >= 0 && f.At <= len(b), true)
			continue
		}
		told++
		want(t, "it can be", edges.Right(g), api.OK)
		want(t, "it rises", edges.Rises(g.Edges), true)
	}
	want(t, "some are told", told > 100, true)
}

func TestP6_5(t *testing.T) {
	d := &dice{state: 5}
	for i := 0; i < 500; i++ {
		rows, cols := d.below(6), d.below(6)
		l := d.triples(rows, cols)
		b, _ := loader.EncodeMatrix(rows, cols, l)
		r, c, got, _ := loader.DecodeMatrix(b)
		want(t, "DecodeMatrix of EncodeMatrix", got, l)
		again, e := loader.EncodeMatrix(r, c, got)
		want(t, "EncodeMatrix of DecodeMatrix", again, b)
		want(t, "its error", e, api.OK)
	}
}

func TestP6_6(t *testing.T) {
	d := &dice{state: 6}
	for i := 0; i < 60; i++ {
		b, _ := loader.Encode(edges.Canon(d.graph(6, 8)))
		m, _ := loader.EncodeMatrix(4, 4, d.triples(4, 4))
		for n := range b {
			_, f := loader.Decode(b[:n])
			want(t, "a graph that is cut", f, api.Fault{Errno: api.ErrShort, At: n})
		}
		for n := range m {
			_, _, _, f := loader.DecodeMatrix(m[:n])
			want(t, "a matrix that is cut", f, api.Fault{Errno: api.ErrShort, At: n})
		}
	}
}

// bytesOfAll is bytes of graphs, matrices, frames, and scripts, or nearly.
var bytesOfAll []func(d *dice) []byte

func init() {
	bytesOfAll = append(bytesOfAll,
		func(d *dice) []byte { g := d.graph(6, 8); return graphBytes(g, byte(d.below(2))) },
		func(d *dice) []byte { return matrixBytes(4, 4, d.triples(4, 4)) })
	maker(func(d *dice) []byte { return bytesOfAll[d.below(len(bytesOfAll))](d) })
}

func TestLoaderWhatever(t *testing.T) {
	whatever(t, 500, face{"loader.Encode", loader.Encode, false}, face{"loader.Decode", loader.Decode, false}, face{"loader.Canon", loader.Canon, false},
		face{"loader.EncodeMatrix", loader.EncodeMatrix, false}, face{"loader.DecodeMatrix", loader.DecodeMatrix, false})
}
