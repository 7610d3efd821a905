package promises

import (
	"math"
	"slices"
	"testing"

	"fretwork/api"
	"fretwork/hops"
	"fretwork/play"
	"fretwork/worker"
)

// hopsOf is levels and parents, by other means.
func hopsOf(g api.Graph, source int) (levels, parents []int64) {
	for range g.N {
		levels, parents = append(levels, -1), append(parents, -1)
	}
	levels[source] = 0
	for range g.N {
		for _, e := range g.Edges {
			if l := levels[e.From]; l >= 0 && (levels[e.To] < 0 || levels[e.To] > l+1) {
				levels[e.To] = l + 1
			}
		}
	}
	for v := g.N - 1; v >= 0; v-- {
		for _, e := range g.Edges {
			if e.From == v && levels[v] >= 0 && levels[e.To] == levels[v]+1 {
				parents[e.To] = int64(v)
			}
		}
	}
	return levels, parents
}

// rooted is a graph that has a vertex, and one of its vertices.
func (d *dice) rooted() (api.Graph, int) {
	_, g := d.task(api.Levels)
	return g, d.below(g.N)
}

// limits is of how many vertices which limit there is.
var limits = map[int]int{math.MinInt: 0, -7: 0, -2: 0, -1: 0, 0: 1, 1: 2, 4096: 4097, 8190: 8191, 8191: 8192, 8192: 8192, 8193: 8192, math.MaxInt: 8192}

func TestP27_1(t *testing.T) {
	d := &dice{}
	for i := 0; i < 100; i++ {
		g, source := d.rooted()
		r, c := d.between(1, 3), d.between(1, 3)
		s := api.Setup{Plan: api.Plan{Kind: api.Levels, N: g.N, Source: source}, Graph: g, R: r, C: c, Room: 4, Limit: g.N + 1}
		want(t, "Setup", hops.Setup(g, source, r, c), s)
		state := d.someState(0, d.below(5))
		a, b := hops.Told(state)
		want(t, "Told", [2][]int64{a, b}, [2][]int64{state.A, state.B})
		levels, parents, e := hops.Run(g, source, r, c)
		told, _ := play.Run(s, nil, play.Bound(s, s.Limit))
		want(t, "Run", levels, told.Result.State.A)
		want(t, "Run", parents, told.Result.State.B)
		want(t, "its error", e, api.OK)
	}
	for n, limit := range limits {
		want(t, "the limit", hops.Setup(api.Graph{N: n}, -3, 0, 99), api.Setup{Plan: api.Plan{Kind: api.Levels, N: n, Source: -3}, Graph: api.Graph{N: n}, R: 0, C: 99, Room: 4, Limit: limit})
	}
	for _, c := range []struct {
		g            api.Graph
		source, r, c int
	}{{path(3), 3, 1, 1}, {path(3), -1, 1, 1}, {path(3), 0, 0, 1}, {path(3), 0, 1, 9}, {api.Graph{}, 0, 1, 1}, {api.Graph{N: 4097}, 0, 1, 1}, {api.Graph{N: 1, Edges: []api.Edge{{To: 1}}}, 0, 1, 1}, {api.Graph{N: 1, Edges: []api.Edge{{W: -1}}}, 0, 1, 1}} {
		a, b, e := hops.Run(c.g, c.source, c.r, c.c)
		want(t, "Run's error", e, worker.Check(hops.Setup(c.g, c.source, c.r, c.c)))
		want(t, "Run's error", e == api.OK || len(a)+len(b) > 0, false)
	}
}

func TestP27_2(t *testing.T) {
	d := &dice{state: 2}
	for i := 0; i < 400; i++ {
		g, source := d.rooted()
		levels, parents := hopsOf(g, source)
		want(t, "Check", hops.Check(g, source, levels, parents), true)
		want(t, "Check of too few", hops.Check(g, source, levels[1:], parents) || hops.Check(g, source, levels, parents[1:]) || hops.Check(g, source, append(slices.Clone(levels), -1), parents), false)
		want(t, "Check of no vertex", hops.Check(g, -1, levels, parents) || hops.Check(g, g.N, levels, parents), false)
		spoilt := api.Graph{N: g.N, Edges: append(slices.Clone(g.Edges), api.Edge{From: g.N})}
		want(t, "Check of what can't be", hops.Check(spoilt, source, levels, parents), false)
		count := []int{}
		v, most := -1, int64(-1)
		for level := int64(0); level <= slices.Max(levels); level++ {
			n := 0
			for at, l := range levels {
				if l == level {
					if n == 0 {
						v, most = at, level
					}
					n++
				}
			}
			count = append(count, n)
		}
		want(t, "Count", hops.Count(levels), count)
		at, level := hops.Farthest(levels)
		want(t, "Farthest", [2]int64{int64(at), level}, [2]int64{int64(v), most})
		for to := -2; to < g.N+2; to++ {
			var way []int
			for x := int64(to); to >= 0 && to < g.N && levels[to] >= 0; x = parents[x] {
				way = append([]int{int(x)}, way...)
				if levels[x] == 0 {
					break
				}
			}
			want(t, "Way", hops.Way(levels, parents, to), way)
		}
	}
}

func TestP27_2_whatever(t *testing.T) {
	for _, c := range []struct {
		levels, parents []int64
		to              int
		way             []int
	}{
		{[]int64{0, 1, 2}, []int64{-1, 0, 1}, 2, []int{0, 1, 2}}, {[]int64{0, 1, 2}, []int64{7, 0, 1}, 2, []int{0, 1, 2}}, {[]int64{0, 1, 2}, []int64{-1, 0, 1}, 3, nil}, {[]int64{0, 1, 2}, []int64{-1, 0, 1}, -1, nil}, {[]int64{0, 1, 2}, []int64{-1, 0}, 2, nil}, {[]int64{0, 1}, []int64{-1, 0, 1}, 2, nil},
		{[]int64{0, 1, 2}, []int64{-1, 0, 0}, 2, nil}, {[]int64{0, 1, 3}, []int64{-1, 0, 1}, 2, nil}, {[]int64{0, 2, 2}, []int64{-1, 0, 1}, 2, nil}, {[]int64{1, 2}, []int64{1, 0}, 1, nil}, {[]int64{1, 1}, []int64{1, 0}, 1, nil}, {[]int64{-1, 0}, []int64{0, 0}, 0, nil}, {[]int64{-1, 0}, []int64{0, 0}, 1, []int{1}},
		{[]int64{0, 1}, []int64{-1, 5}, 1, nil}, {[]int64{0, 1}, []int64{-1, -1}, 1, nil}, {[]int64{0, 1}, []int64{-1, math.MinInt64}, 1, nil}, {[]int64{0, 1}, []int64{-1, 1 << 32}, 1, nil}, {[]int64{math.MaxInt64, math.MaxInt64 - 1}, []int64{1, 0}, 0, nil}, {nil, nil, 0, nil}, {[]int64{0}, []int64{0}, math.MaxInt, nil}, {[]int64{-1, 1}, []int64{0, 0}, 1, nil},
	} {
		if got := hops.Way(c.levels, c.parents, c.to); !same(got, c.way) {
			t.Errorf("Way of %v, %v to %d: %v", c.levels, c.parents, c.to, got)
		}
	}
	want(t, "Count of others", hops.Count([]int64{-1, -5, 4096, math.MaxInt64, 2, 0, 2, 4097}), []int{1, 0, 2})
	want(t, "Count of the greatest", len(hops.Count([]int64{4095})), 4096)
	want(t, "Count of none", hops.Count([]int64{-1, 4096}), nil)
	for _, c := range []struct {
		levels []int64
		v      int
		level  int64
	}{{nil, -1, -1}, {[]int64{-1, -7}, -1, -1}, {[]int64{-1, 0, 0}, 1, 0}, {[]int64{3, 9, 9}, 1, 9}, {[]int64{3, math.MaxInt64}, 1, math.MaxInt64}} {
		v, level := hops.Farthest(c.levels)
		want(t, "Farthest", v, c.v)
		want(t, "Farthest", level, c.level)
	}
}

func TestP27_3(t *testing.T) {
	d := &dice{state: 3}
	for i := 0; i < 150; i++ {
		g, source := d.rooted()
		levels, parents, e := hops.Run(g, source, d.between(1, 4), d.between(1, 4))
		rightL, rightP := hopsOf(g, source)
		want(t, "levels", levels, rightL)
		want(t, "parents", parents, rightP)
		want(t, "its error", e, api.OK)
		want(t, "Check", hops.Check(g, source, levels, parents), true)
		for range 5 {
			l := [2][]int64{slices.Clone(levels), slices.Clone(parents)}
			at, which := d.below(g.N), d.below(2)
			was := l[which][at]
			for l[which][at] == was {
				l[which][at] = int64(d.below(g.N+3)) - 2
			}
			want(t, "nothing else is right", hops.Check(g, source, l[0], l[1]), false)
		}
	}
	levels, parents, _ := hops.Run(path(3), 0, 2, 2)
	want(t, "a path", [2][]int64{levels, parents}, [2][]int64{{0, 1, 2}, {-1, 0, 1}})
}

func TestP27_4(t *testing.T) {
	d := &dice{state: 4}
	for i := 0; i < 200; i++ {
		g, source := d.rooted()
		levels, parents := hopsOf(g, source)
		for to, level := range levels {
			way := hops.Way(levels, parents, to)
			want(t, "as many as its level, and one", len(way), int(level)+1)
			for k := 1; k < len(way); k++ {
				want(t, "an edge leads between", slices.ContainsFunc(g.Edges, func(e api.Edge) bool { return e.From == way[k-1] && e.To == way[k] }), true)
			}
			if level >= 0 {
				want(t, "from the source to its end", [2]int{way[0], way[len(way)-1]}, [2]int{source, to})
			}
		}
	}
}

func TestHopsWhatever(t *testing.T) {
	whatever(t, 300, face{"hops.Setup", hops.Setup, false}, face{"hops.Told", hops.Told, false}, face{"hops.Run", hops.Run, false}, face{"hops.Check", hops.Check, false},
		face{"hops.Way", hops.Way, false}, face{"hops.Farthest", hops.Farthest, false}, face{"hops.Count", hops.Count, false},
		face{"hops.Run on few", func(g api.Graph, source, r, c int) ([]int64, []int64, api.Errno) {
			return hops.Run(g, source%3, r%4, c%4)
		}, false})
}
