package promises

import (
	"math"
	"math/big"
	"sort"
	"testing"

	"fretwork/api"
	"fretwork/edges"
)

// edge is an edge of n vertices.
func (d *dice) edge(n int, most int64) api.Edge {
	return api.Edge{From: d.below(n), To: d.below(n), W: int64(d.below(int(most + 1)))}
}

// graph is a graph that can be, of so many vertices at most, with edges in any order, some of them more than once.
func (d *dice) graph(most, many int) api.Graph {
	g := api.Graph{N: d.below(most + 1)}
	weight := int64(9)
	if d.below(4) == 0 {
		weight = api.MaxWeight
	}
	for n := d.below(many + 1); g.N > 0 && n > 0; n-- {
		g.Edges = append(g.Edges, d.edge(g.N, weight))
	}
	return g
}

// circle is a graph of n vertices in a circle.
func circle(n int) api.Graph {
	g := api.Graph{N: n}
	for i := range n {
		g.Edges = append(g.Edges, api.Edge{From: i, To: (i + 1) % n, W: 1})
	}
	return g
}

// path is a graph of n vertices in a row.
func path(n int) api.Graph {
	g := circle(n)
	g.Edges = g.Edges[:n-1]
	return g
}

// crowd is a graph with so many edges.
func crowd(n, many int) api.Graph {
	g := api.Graph{N: n}
	for i := range many {
		g.Edges = append(g.Edges, api.Edge{From: i / n % n, To: i % n, W: 1})
	}
	return g
}

func init() {
	maker(func(d *dice) api.Graph { return d.graph(12, 20) })
	maker(func(d *dice) []api.Edge { return d.graph(5, 12).Edges })
}

func TestP5_1(t *testing.T) {
	ends := []api.Edge{{From: 1, To: 2, W: 3}}
	for _, c := range []struct {
		g api.Graph
		e api.Errno
	}{
		{api.Graph{}, api.OK},
		{api.Graph{N: 3, Edges: ends}, api.OK},
		{api.Graph{N: -1, Edges: ends}, api.ErrRange},
		{api.Graph{N: math.MinInt}, api.ErrRange},
		{api.Graph{N: api.MaxVerts}, api.OK},
		{api.Graph{N: api.MaxVerts + 1}, api.ErrLong},
		{api.Graph{N: math.MaxInt, Edges: ends}, api.ErrLong},
		{crowd(300, api.MaxEdges), api.OK},
		{crowd(300, api.MaxEdges+1), api.ErrLong},
		{api.Graph{N: -1, Edges: crowd(300, api.MaxEdges+1).Edges}, api.ErrRange},
		{api.Graph{N: 1, Edges: crowd(300, api.MaxEdges+1).Edges}, api.ErrLong},
		{api.Graph{N: 2, Edges: ends}, api.ErrRange},
		{api.Graph{N: 3, Edges: []api.Edge{{From: 2, To: 3}}}, api.ErrRange},
		{api.Graph{N: 3, Edges: []api.Edge{{From: 3, To: 2}}}, api.ErrRange},
		{api.Graph{N: 3, Edges: []api.Edge{{From: -1, To: 2}}}, api.ErrRange},
		{api.Graph{N: 3, Edges: []api.Edge{{From: 1, To: -1}}}, api.ErrRange},
		{api.Graph{N: 0, Edges: []api.Edge{{}}}, api.ErrRange},
		{api.Graph{N: 3, Edges: []api.Edge{{W: -1}}}, api.ErrValue},
		{api.Graph{N: 3, Edges: []api.Edge{{W: 0}, {W: api.MaxWeight}}}, api.OK},
		{api.Graph{N: 3, Edges: []api.Edge{{W: 0}, {W: api.MaxWeight + 1}}}, api.ErrValue},
		{api.Graph{N: 3, Edges: []api.Edge{{W: -1}, {To: 3}}}, api.ErrRange},
	} {
		if len(c.g.Edges) > 9 {
			want(t, "Right of a crowd", edges.Right(c.g), c.e)
		} else if got := edges.Right(c.g); got != c.e {
			t.Errorf("Right of %v: %d, not %d", c.g, got, c.e)
		}
	}
	for _, c := range []struct {
		l  []api.Edge
		is bool
	}{
		{nil, true}, {ends, true},
		{[]api.Edge{{From: 1, To: 2}, {From: 1, To: 3}}, true},
		{[]api.Edge{{From: 1, To: 2}, {From: 2, To: 0}}, true},
		{[]api.Edge{{From: -5, To: 2}, {From: 2, To: -7}}, true},
		{[]api.Edge{{From: 1, To: 2}, {From: 1, To: 2, W: 1}}, false},
		{[]api.Edge{{From: 1, To: 2}, {From: 1, To: 1}}, false},
		{[]api.Edge{{From: 1, To: 2}, {From: 0, To: 3}}, false},
		{[]api.Edge{{From: 0, To: 1}, {From: 1, To: 1}, {From: 1, To: 0}}, false},
	} {
		want(t, "Rises", edges.Rises(c.l), c.is)
	}
}

// sumAll is what ring.Add makes of values, by other means.
func sumAll(r api.Ring, l []int64) *big.Int {
	sum := big.NewInt(l[0])
	for _, v := range l[1:] {
		x := big.NewInt(v)
		switch {
		case r == api.PlusTimes:
			sum.Add(sum, x)
		case r == api.OrAnd && (sum.Sign() != 0 || v != 0):
			sum = big.NewInt(1)
		case takesLeast(r) && x.Cmp(sum) < 0:
			sum = x
		}
	}
	return sum
}

func combined(r api.Ring, l []api.Edge) ([]api.Edge, api.Errno) {
	var out []api.Edge
	all := map[[2]int][]int64{}
	for _, e := range l {
		k := [2]int{e.From, e.To}
		if len(all[k]) == 0 {
			out = append(out, api.Edge{From: e.From, To: e.To})
		}
		all[k] = append(all[k], e.W)
	}
	sort.Slice(out, func(i, k int) bool {
		a, b := out[i], out[k]
		return a.From < b.From || a.From == b.From && a.To < b.To
	})
	for i, e := range out {
		sum := sumAll(r, all[[2]int{e.From, e.To}])
		if !sum.IsInt64() {
			return nil, api.ErrOver
		}
		out[i].W = sum.Int64()
	}
	return out, api.OK
}

func TestP5_1_combine(t *testing.T) {
	d := &dice{state: 1}
	for i := 0; i < 3000; i++ {
		var l []api.Edge
		for n := d.below(12); n > 0; n-- {
			e := api.Edge{From: d.below(3), To: d.below(3), W: d.small()}
			if d.below(3) == 0 {
				e.W = d.odd()
			}
			if d.below(20) == 0 {
				e.From = int(d.odd())
			}
			l = append(l, e)
		}
		for _, r := range allRings {
			got, e := edges.Combine(r, l)
			right, re := combined(r, l)
			want(t, "Combine", got, right)
			want(t, "Combine's error", e, re)
		}
		right, _ := combined(api.MinPlus, l)
		want(t, "Canon", edges.Canon(api.Graph{N: i - 5, Edges: l}), api.Graph{N: i - 5, Edges: right})
	}
	for _, r := range noRings {
		if l, e := edges.Combine(r, []api.Edge{{W: 1}}); len(l) > 0 || e != api.ErrKind {
			t.Errorf("Combine by no ring: %v, %d", l, e)
		}
	}
	l, e := edges.Combine(api.PlusTimes, []api.Edge{{W: math.MaxInt64}, {W: 1}, {W: -1}})
	want(t, "a sum that is over on the way", l, []api.Edge{{W: math.MaxInt64}})
	want(t, "its error", e, api.OK)
	l, e = edges.Combine(api.OrAnd, []api.Edge{{To: 1, W: 7}})
	want(t, "a lone one", l, []api.Edge{{To: 1, W: 7}})
	want(t, "its error", e, api.OK)
	want(t, "5 and 3", edges.Canon(api.Graph{N: 3, Edges: []api.Edge{{From: 1, To: 2, W: 5}, {From: 1, To: 2, W: 3}}}).Edges, []api.Edge{{From: 1, To: 2, W: 3}})
}

func TestP5_2(t *testing.T) {
	d := &dice{state: 2}
	for i := 0; i < 1000; i++ {
		g := d.graph(8, 20)
		if i%50 == 0 {
			g.N -= 5
		}
		var turn, both, simple, plain, lower []api.Edge
		for _, e := range g.Edges {
			back := api.Edge{From: e.To, To: e.From, W: e.W}
			turn = append(turn, back)
			both = append(both, e, back)
			plain = append(plain, api.Edge{From: e.From, To: e.To, W: 1})
			if e.From != e.To {
				simple = append(simple, e)
			}
			if e.To < e.From {
				lower = append(lower, e)
			}
		}
		for _, c := range []struct {
			name string
			got  api.Graph
			l    []api.Edge
		}{
			{"Turn", edges.Turn(g), turn}, {"Both", edges.Both(g), both}, {"Simple", edges.Simple(g), simple},
			{"Plain", edges.Plain(g), plain}, {"Lower", edges.Lower(g), lower},
		} {
			right, _ := combined(api.MinPlus, c.l)
			want(t, c.name, c.got, api.Graph{N: g.N, Edges: right})
		}
	}
}

func TestP5_3(t *testing.T) {
	g := api.Graph{N: 3, Edges: []api.Edge{{From: 0, To: 1}, {From: 0, To: 1}, {From: 2, To: 3}, {From: 3, To: 2}, {From: -1, To: 0}, {From: 1, To: -1}, {From: math.MaxInt, To: math.MinInt}}}
	want(t, "Outs", edges.Outs(g), []int{2, 1, 1})
	want(t, "Ins", edges.Ins(g), []int{1, 2, 1})
	for _, n := range []int{-1, math.MinInt, api.MaxVerts + 1, math.MaxInt} {
		if g.N = n; len(edges.Outs(g))+len(edges.Ins(g)) > 0 {
			t.Errorf("Outs and Ins of %d vertices", n)
		}
	}
	for _, n := range []int{0, api.MaxVerts} {
		g.N = n
		want(t, "Outs of no more or less", len(edges.Outs(g)), n)
		want(t, "Ins of no more or less", len(edges.Ins(g)), n)
	}
	a := api.Graph{N: 3, Edges: []api.Edge{{From: 0, To: 1, W: 2}, {From: 1, To: 2, W: 3}}}
	want(t, "Same", edges.Same(a, edges.Canon(a)), true)
	want(t, "Same of no edges", edges.Same(api.Graph{N: 1}, api.Graph{N: 1, Edges: []api.Edge{}}), true)
	for _, b := range []api.Graph{
		{N: 4, Edges: a.Edges}, {N: 3, Edges: a.Edges[:1]}, {N: 3}, {N: 3, Edges: []api.Edge{a.Edges[1], a.Edges[0]}},
		{N: 3, Edges: []api.Edge{a.Edges[0], {From: 1, To: 2, W: 4}}}, {N: 3, Edges: []api.Edge{a.Edges[0], {From: 1, To: 1, W: 3}}},
		{N: 3, Edges: []api.Edge{{From: 1, To: 1, W: 2}, a.Edges[1]}},
	} {
		want(t, "Same of others", edges.Same(a, b) || edges.Same(b, a), false)
	}
}

func TestP5_4(t *testing.T) {
	d := &dice{state: 4}
	for i := 0; i < 500; i++ {
		g := d.graph(7, 20)
		c := edges.Canon(g)
		want(t, "Canon rises", edges.Rises(c.Edges), true)
		want(t, "Canon of Canon", edges.Canon(c), c)
		mixed := api.Graph{N: g.N, Edges: append([]api.Edge{}, g.Edges...)}
		for k := range mixed.Edges {
			o := d.below(k + 1)
			mixed.Edges[k], mixed.Edges[o] = mixed.Edges[o], mixed.Edges[k]
		}
		want(t, "in any order", edges.Canon(mixed), c)
		for _, e := range g.Edges {
			least := e.W
			for _, o := range g.Edges {
				if o.From == e.From && o.To == e.To {
					least = min(least, o.W)
				}
			}
			found := 0
			for _, o := range c.Edges {
				if o == (api.Edge{From: e.From, To: e.To, W: least}) {
					found++
				}
			}
			want(t, "the least", found, 1)
		}
	}
}

func TestP5_5(t *testing.T) {
	d := &dice{state: 5}
	for i := 0; i < 500; i++ {
		g := d.graph(7, 20)
		want(t, "Turn of Turn", edges.Turn(edges.Turn(g)), edges.Canon(g))
		want(t, "Turn of Both", edges.Turn(edges.Both(g)), edges.Both(g))
	}
}

func TestP5_6(t *testing.T) {
	d := &dice{state: 6}
	total := func(l []int) int {
		n := 0
		for _, x := range l {
			n += x
		}
		return n
	}
	for i := 0; i < 500; i++ {
		g := d.graph(7, 20)
		want(t, "Outs", total(edges.Outs(g)), len(g.Edges))
		want(t, "Ins", total(edges.Ins(g)), len(g.Edges))
		want(t, "Outs of Turn", edges.Outs(edges.Turn(g)), edges.Ins(edges.Canon(g)))
	}
}

func TestEdgesWhatever(t *testing.T) {
	whatever(t, 300, face{"edges.Right", edges.Right, false}, face{"edges.Rises", edges.Rises, false}, face{"edges.Combine", edges.Combine, false},
		face{"edges.Canon", edges.Canon, false}, face{"edges.Turn", edges.Turn, false}, face{"edges.Both", edges.Both, false},
		face{"edges.Simple", edges.Simple, false}, face{"edges.Plain", edges.Plain, false}, face{"edges.Lower", edges.Lower, false},
		face{"edges.Outs", edges.Outs, false}, face{"edges.Ins", edges.Ins, false}, face{"edges.Same", edges.Same, false})
}
