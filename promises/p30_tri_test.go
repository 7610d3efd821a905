package promises

import (
	"math"
	"testing"

	"fretwork/api"
	"fretwork/csr"
	"fretwork/edges"
	"fretwork/summa"
	"fretwork/tri"
)

// trianglesOf is all triangles, by other means.
func trianglesOf(g api.Graph) [][3]int {
	near := map[[2]int]bool{}
	for _, e := range g.Edges {
		near[[2]int{min(e.From, e.To), max(e.From, e.To)}] = true
	}
	var l [][3]int
	for a := range g.N {
		for b := a + 1; b < g.N; b++ {
			for c := b + 1; c < g.N; c++ {
				if near[[2]int{a, b}] && near[[2]int{b, c}] && near[[2]int{a, c}] {
					l = append(l, [3]int{a, b, c})
				}
			}
		}
	}
	return l
}

// dense is a graph in which there are triangles, now and then of more vertices than a word has bits.
func (d *dice) dense() api.Graph {
	g := d.graph(9, 40)
	if d.below(6) == 0 {
		g = d.graph(80, 600)
	}
	return g
}

func TestP30_1(t *testing.T) {
	d := &dice{}
	for i := 0; i < 100; i++ {
		g := d.dense()
		r, c := d.between(1, 8), d.between(1, 8)
		m, _ := csr.Graph(edges.Plain(edges.Lower(edges.Both(g))))
		p, e := tri.Product(g, r, c)
		want(t, "Product", p, api.Product{Ring: api.PlusTimes, A: m, B: m, Mask: m, R: r, C: c, Room: 4})
		want(t, "its error", e, api.OK)
		got, ended, e := summa.Run(p, nil, summa.Bound(p))
		want(t, "it ends", ended && e == api.OK, true)
		sum := int64(0)
		for _, v := range got.Val {
			sum += v
		}
		n, e := tri.Run(g, r, c)
		want(t, "Run", n, sum)
		want(t, "its error", e, api.OK)
	}
	for _, g := range wrongGraphs {
		p, e := tri.Product(g, 0, 1)
		want(t, "Product's error", e, edges.Right(g))
		want(t, "nothing beside it", p, api.Product{})
		n, e := tri.Run(g, 1, 9)
		want(t, "Run's error", e, edges.Right(g))
		want(t, "nothing beside it", n, 0)
	}
	for _, k := range []int{0, -1, 9, math.MaxInt, math.MinInt} {
		for _, b := range [][2]int{{k, 1}, {1, k}} {
			p, e := tri.Product(path(3), b[0], b[1])
			want(t, "Product's error", e, api.ErrRange)
			want(t, "nothing beside it", p, api.Product{})
			_, e = tri.Run(path(3), b[0], b[1])
			want(t, "Run's error", e, api.ErrRange)
		}
	}
}

func TestP30_2(t *testing.T) {
	d := &dice{state: 2}
	for i := 0; i < 200; i++ {
		g := d.dense()
		l := trianglesOf(g)
		want(t, "List", tri.List(g), l)
		many := make([]int, g.N)
		for _, x := range l {
			for _, v := range x {
				many[v]++
			}
		}
		want(t, "Of", tri.Of(g), many)
	}
	for _, g := range wrongGraphs {
		want(t, "List of what can't be", tri.List(g), nil)
		want(t, "Of of what can't be", tri.Of(g), nil)
	}
}

func TestP30_3(t *testing.T) {
	d := &dice{state: 3}
	for i := 0; i < 100; i++ {
		g := d.dense()
		n, e := tri.Run(g, d.between(1, 4), d.between(1, 4))
		want(t, "how many there are", n, int64(len(trianglesOf(g))))
		want(t, "its error", e, api.OK)
	}
	n, _ := tri.Run(api.Graph{N: 3, Edges: []api.Edge{{From: 0, To: 1}, {From: 2, To: 1}, {From: 0, To: 2}}}, 2, 2)
	want(t, "one triangle", n, 1)
	n, _ = tri.Run(steep(8), 8, 8)
	want(t, "all of 8", n, 56)
}

func TestP30_4(t *testing.T) {
	d := &dice{state: 4}
	for i := 0; i < 100; i++ {
		g := d.dense()
		sum := 0
		for _, n := range tri.Of(g) {
			sum += n
		}
		want(t, "three times as many", sum, 3*len(tri.List(g)))
	}
}

func TestP30_5(t *testing.T) {
	d := &dice{state: 5}
	for i := 0; i < 100; i++ {
		g := d.dense()
		other := api.Graph{N: g.N}
		for _, e := range g.Edges {
			x := api.Edge{From: e.To, To: e.From, W: int64(d.below(9))}
			if d.coin() {
				x.From, x.To = e.From, e.To
			}
			other.Edges = append(other.Edges, x)
			if d.below(4) == 0 {
				other.Edges = append(other.Edges, api.Edge{From: e.To, To: e.To, W: 1}, x)
			}
		}
		a, _ := tri.Run(g, 2, 2)
		b, _ := tri.Run(other, 2, 1)
		want(t, "weights, ways, and loops do not matter", b, a)
		want(t, "weights, ways, and loops do not matter", tri.List(other), tri.List(g))
	}
}

func TestTriWhatever(t *testing.T) {
	whatever(t, 300, face{"tri.Product", tri.Product, false}, face{"tri.Run", tri.Run, false}, face{"tri.List", tri.List, false}, face{"tri.Of", tri.Of, false},
		face{"tri.Product of few", func(g api.Graph, r, c int) (api.Product, int64, api.Errno) {
			p, e := tri.Product(g, r%4, c%4)
			n, _ := tri.Run(g, r%4, c%4)
			return p, n, e
		}, false})
}
