package promises

import (
	"math"
	"slices"
	"testing"

	"fretwork/api"
	"fretwork/edges"
	"fretwork/hops"
	"fretwork/indep"
	"fretwork/model"
	"fretwork/play"
	"fretwork/prog"
	"fretwork/worker"
)

// nearby tells of each two vertices whether they are neighbours.
func nearby(g api.Graph) map[[2]int]bool {
	near := map[[2]int]bool{}
	for _, e := range g.Edges {
		if e.From != e.To {
			near[[2]int{e.From, e.To}], near[[2]int{e.To, e.From}] = true, true
		}
	}
	return near
}

// isFull tells whether vertices are a full set, by other means.
func isFull(g api.Graph, l []int) bool {
	near := nearby(g)
	for v := range g.N {
		beside := false
		for _, u := range l {
			beside = beside || near[[2]int{u, v}]
		}
		if beside == slices.Contains(l, v) {
			return false
		}
	}
	return true
}

// joinsOf is who joins in each draw, by other means.
func joinsOf(g api.Graph, draws []int64) [][]int {
	p := api.Plan{Kind: api.Indep, N: g.N, Draws: draws}
	near := nearby(g)
	free := map[int]bool{}
	for v := range g.N {
		free[v] = true
	}
	var out [][]int
	for draw := 0; len(free) > 0; draw++ {
		var l []int
		for v := range g.N {
			is := free[v]
			for u := range g.N {
				if near[[2]int{u, v}] && free[u] && drawOf(p, draw, u) < drawOf(p, draw, v) {
					is = false
				}
			}
			if is {
				l = append(l, v)
			}
		}
		for _, v := range l {
			delete(free, v)
			for u := range g.N {
				if near[[2]int{u, v}] {
					delete(free, u)
				}
			}
		}
		out = append(out, l)
	}
	return out
}

// draws is some numbers.
func (d *dice) draws() []int64 {
	var l []int64
	for n := d.below(7); n > 0; n-- {
		l = append(l, int64(d.below(5)))
	}
	return l
}

func TestP31_1(t *testing.T) {
	d := &dice{}
	for i := 0; i < 80; i++ {
		g, draws := d.loose(), d.draws()
		r, c := d.between(1, 3), d.between(1, 3)
		s := hops.Setup(g, 0, r, c)
		s.Plan.Kind, s.Plan.Draws, s.Limit = api.Indep, draws, 2*g.N
		want(t, "Setup", indep.Setup(g, draws, r, c), s)
		l, rounds, e := indep.Run(g, draws, r, c)
		told, _ := play.Run(s, nil, play.Bound(s, s.Limit))
		want(t, "Run", l, indep.Told(told.Result.State))
		want(t, "its supersteps", rounds, told.Result.Rounds)
		want(t, "its error", e, api.OK)
		low, high := d.some(9)
		state := d.someState(low, high)
		var in []int
		for i, a := range state.A {
			if a == 1 {
				in = append(in, low+i)
			}
		}
		want(t, "Told", indep.Told(state), in)
	}
	for n, limit := range map[int]int{math.MinInt: 0, -1: 0, 0: 0, 1: 2, 4095: 8190, 4096: 8192, 4097: 8192, math.MaxInt: 8192} {
		s := hops.Setup(api.Graph{N: n}, 0, 0, 99)
		s.Plan.Kind, s.Limit = api.Indep, limit
		want(t, "Setup", indep.Setup(api.Graph{N: n}, nil, 0, 99), s)
	}
	for _, c := range []struct {
		g     api.Graph
		draws []int64
		r     int
	}{{path(3), []int64{-1}, 1}, {path(3), make([]int64, 65537), 1}, {path(3), nil, 0}, {wrongGraphs[0], nil, 1}, {wrongGraphs[2], nil, 1}, {wrongGraphs[4], nil, 1}} {
		l, rounds, e := indep.Run(c.g, c.draws, c.r, 1)
		want(t, "Run's error", e, worker.Check(indep.Setup(c.g, c.draws, c.r, 1)))
		want(t, "Run's error", e != api.OK && len(l) == 0 && rounds == 0, true)
	}
}

func TestP31_2(t *testing.T) {
	d := &dice{state: 2}
	right := 0
	for i := 0; i < 1500; i++ {
		g := d.graph(6, 8)
		if i%20 == 0 {
			g = d.loose()
		}
		var l []int
		for v := range g.N {
			if d.below(3) > 0 {
				l = append(l, v)
			}
		}
		if d.coin() {
			l = indep.First(g)
		}
		if isFull(g, l) {
			right++
		}
		want(t, "Check", indep.Check(g, l), isFull(g, l))
		draws := d.draws()
		want(t, "Joins", indep.Joins(g, draws), joinsOf(g, draws))
		var first []int
		near := nearby(g)
		for v := range g.N {
			if !slices.ContainsFunc(first, func(u int) bool { return near[[2]int{u, v}] }) {
				first = append(first, v)
			}
		}
		want(t, "First", indep.First(g), first)
	}
	want(t, "some are full sets", right > 300 && right < 1400, true)
	for _, l := range [][]int{{2, 0}, {0, 0, 2}, {0, 2, 3}, {-1, 0, 2}, {0, 2, math.MaxInt}, {0}, {0, 1}, nil, {0, 1, 2}} {
		want(t, "Check", indep.Check(path(3), l), false)
	}
	want(t, "Check", indep.Check(path(3), []int{0, 2}) && indep.Check(path(3), []int{1}) && indep.Check(api.Graph{}, nil), true)
	for _, g := range wrongGraphs {
		if indep.Check(g, nil) || indep.Check(g, []int{0, 1}) || len(indep.Joins(g, nil)) > 0 || len(indep.First(g)) > 0 {
			t.Errorf("%v can't be", g)
		}
	}
	for _, draws := range [][]int64{{-1}, {0, api.MaxWeight + 1}, make([]int64, 65537)} {
		want(t, "Joins by what can't be", indep.Joins(path(3), draws), nil)
	}
}

func TestP31_3(t *testing.T) {
	d := &dice{state: 3}
	for i := 0; i < 150; i++ {
		g, draws := d.loose(), d.draws()
		l, rounds, e := indep.Run(g, draws, d.between(1, 4), d.between(1, 4))
		want(t, "its error", e, api.OK)
		want(t, "a full set", isFull(g, l), true)
		joins := indep.Joins(g, draws)
		var all []int
		for _, x := range joins {
			all = append(all, x...)
		}
		slices.Sort(all)
		want(t, "all that Joins tells", l, all)
		want(t, "two supersteps for each draw, or one less", rounds == 2*len(joins) || rounds == max(2*len(joins)-1, 0), true)
	}
	l, _, _ := indep.Run(path(3), nil, 2, 2)
	want(t, "a path", l, []int{0, 2})
	s := indep.Setup(circle(9), []int64{3, 1, 2}, 1, 1)
	r, _ := model.Run(s.Plan, s.Graph, s.Limit)
	l, rounds, _ := indep.Run(circle(9), []int64{3, 1, 2}, 3, 2)
	want(t, "as the model", [2]any{len(indep.Told(r.State)), r.Rounds} == [2]any{len(l), rounds}, true)
}

func TestP31_4(t *testing.T) {
	d := &dice{state: 4}
	for i := 0; i < 300; i++ {
		for _, l := range indep.Joins(d.loose(), d.draws()) {
			want(t, "somebody joins", len(l) > 0, true)
		}
	}
}

func TestP31_5(t *testing.T) {
	d := &dice{state: 5}
	for i := 0; i < 150; i++ {
		g := d.loose()
		l, _, _ := indep.Run(g, nil, d.between(1, 3), d.between(1, 3))
		want(t, "without draws", l, indep.First(g))
	}
	want(t, "a draw", prog.Draw(api.Plan{Kind: api.Indep, N: 3, Draws: []int64{2}}, 0, 1), 2*4096+1)
	want(t, "Simple", len(edges.Simple(path(3)).Edges), 2)
}

func TestIndepWhatever(t *testing.T) {
	whatever(t, 300, face{"indep.Setup", indep.Setup, false}, face{"indep.Told", indep.Told, false}, face{"indep.Run", indep.Run, false}, face{"indep.Check", indep.Check, false},
		face{"indep.Joins", indep.Joins, false}, face{"indep.First", indep.First, false},
		face{"indep.Run and Joins on few", func(g api.Graph, draw uint32, r, c int) ([]int, int, [][]int, api.Errno) {
			draws := []int64{int64(draw % 7), int64(draw % 5), int64(draw % 3)}
			l, rounds, e := indep.Run(g, draws, r%4, c%4)
			if e != api.OK {
				return l, rounds, nil, e
			}
			return l, rounds, indep.Joins(g, draws), e
		}, false})
}
