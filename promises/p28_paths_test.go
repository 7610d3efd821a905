package promises

import (
	"math"
	"slices"
	"testing"

	"fretwork/api"
	"fretwork/edges"
	"fretwork/hops"
	"fretwork/paths"
	"fretwork/play"
	"fretwork/worker"
)

// farOf is how far vertices are, by other means.
func farOf(g api.Graph, source int) []int64 {
	far := slices.Repeat([]int64{api.Inf}, g.N)
	far[source] = 0
	for range g.N {
		for _, e := range g.Edges {
			if far[e.From] < api.Inf {
				far[e.To] = min(far[e.To], far[e.From]+e.W)
			}
		}
	}
	return far
}

func TestP28_1(t *testing.T) {
	d := &dice{}
	for i := 0; i < 100; i++ {
		g, source := d.rooted()
		r, c := d.between(1, 3), d.between(1, 3)
		s := hops.Setup(g, source, r, c)
		s.Plan.Kind = api.Paths
		want(t, "Setup", paths.Setup(g, source, r, c), s)
		far, e := paths.Run(g, source, r, c)
		told, _ := play.Run(s, nil, play.Bound(s, s.Limit))
		want(t, "Run", far, told.Result.State.A)
		want(t, "its error", e, api.OK)
	}
	for n := range limits {
		s := hops.Setup(api.Graph{N: n}, -3, 0, 99)
		s.Plan.Kind = api.Paths
		want(t, "Setup", paths.Setup(api.Graph{N: n}, -3, 0, 99), s)
	}
	for _, c := range []struct {
		g            api.Graph
		source, r, c int
	}{{path(3), 3, 1, 1}, {path(3), -1, 1, 1}, {path(3), 0, 0, 1}, {path(3), 0, 1, 9}, {api.Graph{}, 0, 1, 1}, {api.Graph{N: 1, Edges: []api.Edge{{W: -1}}}, 0, 1, 1}} {
		far, e := paths.Run(c.g, c.source, c.r, c.c)
		want(t, "Run's error", e, worker.Check(paths.Setup(c.g, c.source, c.r, c.c)))
		want(t, "Run's error", e == api.OK || len(far) > 0, false)
	}
}

func TestP28_2(t *testing.T) {
	d := &dice{state: 2}
	for i := 0; i < 300; i++ {
		g, source := d.rooted()
		far := farOf(g, source)
		want(t, "Check", paths.Check(g, source, far), true)
		want(t, "Check of no vertex", paths.Check(g, -1, far) || paths.Check(g, g.N, far), false)
		want(t, "Check of too few", paths.Check(g, source, far[1:]) || paths.Check(g, source, append(slices.Clone(far), api.Inf)), false)
		spoilt := api.Graph{N: g.N, Edges: append(slices.Clone(g.Edges), api.Edge{From: g.N})}
		want(t, "what can't be", paths.Check(spoilt, source, far) || len(paths.Tight(spoilt, far)) > 0 || len(paths.Way(spoilt, source, far, source)) > 0, false)
		any := slices.Clone(far)
		for n := d.below(3); n > 0; n-- {
			any[d.below(g.N)] = []int64{-1, 0, 1, api.Inf, api.Inf - 1, math.MaxInt64, math.MinInt64, d.small()}[d.below(8)]
		}
		var tight []api.Edge
		for _, e := range edges.Canon(g).Edges {
			a, b := any[e.From], any[e.To]
			if a >= 0 && a < api.Inf && b >= 0 && b < api.Inf && e.W == b-a {
				tight = append(tight, e)
			}
		}
		want(t, "Tight", paths.Tight(g, any), tight)
		want(t, "Tight of too few", len(paths.Tight(g, any[1:]))+len(paths.Tight(g, append(any, 0))), 0)
		levels, parents := hopsOf(api.Graph{N: g.N, Edges: paths.Tight(g, far)}, source)
		for to := -2; to < g.N+2; to++ {
			want(t, "Way", paths.Way(g, source, far, to), hops.Way(levels, parents, to))
		}
		wrong := slices.Clone(far)
		wrong[source]++
		want(t, "Way by what is wrong", paths.Way(g, source, wrong, source), nil)
	}
	g := api.Graph{N: 4, Edges: []api.Edge{{From: 0, To: 1, W: 5}, {From: 0, To: 1, W: 4}, {From: 1, To: 2, W: 0}, {From: 2, To: 2, W: 3}}}
	for _, c := range []struct {
		way []int
		w   int64
		ok  bool
	}{{[]int{0, 1, 2}, 4, true}, {[]int{0, 1, 2, 2, 2}, 10, true}, {[]int{3}, 0, true}, {nil, 0, false}, {[]int{1, 0}, 0, false}, {[]int{0, 2}, 0, false}, {[]int{0, 0}, 0, false}, {[]int{4}, 0, false}, {[]int{-1}, 0, false}, {[]int{0, 1, 4}, 0, false}, {[]int{math.MaxInt}, 0, false}} {
		w, ok := paths.Weight(g, c.way)
		want(t, "Weight", w, c.w)
		want(t, "whether it is a way", ok, c.ok)
	}
	g.Edges[0].W = -1
	w, ok := paths.Weight(g, []int{0, 1})
	want(t, "Weight of what can't be", w, 0)
	want(t, "Weight of what can't be", ok, false)
}

func TestP28_3(t *testing.T) {
	d := &dice{state: 3}
	for i := 0; i < 150; i++ {
		g, source := d.rooted()
		far, e := paths.Run(g, source, d.between(1, 4), d.between(1, 4))
		want(t, "how far", far, farOf(g, source))
		want(t, "its error", e, api.OK)
		want(t, "Check", paths.Check(g, source, far), true)
		for range 4 {
			l := slices.Clone(far)
			at := d.below(g.N)
			for l[at] == far[at] {
				l[at] = far[at] + int64(d.below(5)) - 2
			}
			want(t, "nothing else is right", paths.Check(g, source, l), false)
		}
	}
	far, _ := paths.Run(api.Graph{N: 3, Edges: []api.Edge{{From: 0, To: 1, W: 5}, {From: 0, To: 2, W: 1}, {From: 2, To: 1, W: 2}}}, 0, 2, 2)
	want(t, "0, 3, 1", far, []int64{0, 3, 1})
}

func TestP28_4(t *testing.T) {
	d := &dice{state: 4}
	for i := 0; i < 150; i++ {
		g, source := d.rooted()
		far := farOf(g, source)
		for to := range g.N {
			way := paths.Way(g, source, far, to)
			if far[to] == api.Inf {
				want(t, "no way", way, nil)
				continue
			}
			w, ok := paths.Weight(g, way)
			want(t, "Way weighs how far its end is", w, far[to])
			want(t, "it is a way", ok, true)
			want(t, "from the source to its end", [2]int{way[0], way[len(way)-1]}, [2]int{source, to})
		}
		way := []int{source}
		for range 12 {
			way = append(way, d.below(g.N))
			if w, ok := paths.Weight(g, way); ok {
				want(t, "no way weighs less", w >= far[way[len(way)-1]], true)
			} else {
				way = way[:len(way)-1]
			}
		}
	}
}

func TestPathsWhatever(t *testing.T) {
	whatever(t, 300, face{"paths.Setup", paths.Setup, false}, face{"paths.Run", paths.Run, false}, face{"paths.Check", paths.Check, false}, face{"paths.Tight", paths.Tight, false},
		face{"paths.Way", paths.Way, false}, face{"paths.Weight", paths.Weight, false},
		face{"paths.Run and Way on few", func(g api.Graph, source, r, c, to int) ([]int64, []int, api.Errno) {
			far, e := paths.Run(g, source%3, r%4, c%4)
			return far, paths.Way(g, source%3, far, to%5), e
		}, false})
}
