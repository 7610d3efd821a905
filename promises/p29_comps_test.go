package promises

import (
	"math"
	"slices"
	"testing"

	"fretwork/api"
	"fretwork/comps"
	"fretwork/edges"
	"fretwork/hops"
	"fretwork/play"
	"fretwork/worker"
)

// labelsOf is the label of each vertex, by other means.
func labelsOf(g api.Graph) []int64 {
	var l []int64
	for v := range g.N {
		l = append(l, int64(v))
	}
	for range g.N {
		for _, e := range g.Edges {
			least := min(l[e.From], l[e.To])
			l[e.From], l[e.To] = least, least
		}
	}
	return l
}

// loose is a graph of which not all hangs together.
func (d *dice) loose() api.Graph {
	g := d.graph(12, 12)
	if d.below(4) == 0 {
		g = d.graph(90, 70)
	}
	return g
}

// wrongGraphs can't be.
var wrongGraphs = []api.Graph{{N: -1}, {N: 4097}, {N: 2, Edges: []api.Edge{{To: 2}}}, {N: 2, Edges: []api.Edge{{From: -1}}}, {N: 2, Edges: []api.Edge{{W: -1}}}}

func TestP29_1(t *testing.T) {
	d := &dice{}
	for i := 0; i < 60; i++ {
		g := d.loose()
		r, c := d.between(1, 3), d.between(1, 3)
		s := hops.Setup(g, 0, r, c)
		s.Plan.Kind = api.Labels
		want(t, "Setup", comps.Setup(g, r, c), s)
		labels, e := comps.Run(g, r, c)
		told, _ := play.Run(s, nil, play.Bound(s, s.Limit))
		want(t, "Run", labels, told.Result.State.A)
		want(t, "its error", e, api.OK)
	}
	for n := range limits {
		s := hops.Setup(api.Graph{N: n}, 0, 0, 99)
		s.Plan.Kind = api.Labels
		want(t, "Setup", comps.Setup(api.Graph{N: n}, 0, 99), s)
	}
	for _, g := range append(wrongGraphs, path(3)) {
		for _, k := range []int{0, 9, -1} {
			l, e := comps.Run(g, k, 1)
			want(t, "Run's error", e, worker.Check(comps.Setup(g, k, 1)))
			want(t, "nothing beside it", l, nil)
		}
	}
}

func TestP29_2(t *testing.T) {
	d := &dice{state: 2}
	for i := 0; i < 300; i++ {
		g := d.loose()
		labels := labelsOf(g)
		want(t, "Check", comps.Check(g, labels), true)
		want(t, "Check of too many", comps.Check(g, append(slices.Clone(labels), 0)), false)
		unlike := map[int64]bool{}
		for _, l := range labels {
			unlike[l] = true
		}
		want(t, "Count", comps.Count(g), len(unlike))
		v := d.below(g.N+4) - 2
		var in []api.Edge
		for _, e := range edges.Canon(g).Edges {
			if v >= 0 && v < g.N && labels[e.From] == labels[v] {
				in = append(in, e)
			}
		}
		part := api.Graph{N: g.N, Edges: in}
		if v < 0 || v >= g.N {
			part = api.Graph{}
		}
		want(t, "Part", comps.Part(g, v), part)
		for range 9 {
			a, b := d.below(g.N+4)-2, d.below(g.N+4)-2
			right := a >= 0 && a < g.N && b >= 0 && b < g.N && labels[a] == labels[b]
			want(t, "Joined", comps.Joined(g, a, b), right)
		}
		var any []int64
		for n := d.below(9); n > 0; n-- {
			any = append(any, []int64{0, 1, 2, -7, math.MaxInt64}[d.below(5)])
		}
		var groups [][]int
		for v, l := range any {
			at := slices.IndexFunc(groups, func(x []int) bool { return any[x[0]] == l })
			if at < 0 {
				groups = append(groups, []int{v})
			} else {
				groups[at] = append(groups[at], v)
			}
		}
		want(t, "Groups", comps.Groups(any), groups)
	}
	for _, g := range wrongGraphs {
		if comps.Check(g, nil) || comps.Check(g, []int64{0, 0}) || comps.Check(g, []int64{0, 1}) || comps.Joined(g, 0, 0) || comps.Count(g) != 0 || !same(comps.Part(g, 0), api.Graph{}) {
			t.Errorf("%v can't be", g)
		}
	}
	want(t, "Check of too few", comps.Check(path(2), []int64{0}), false)
	want(t, "Check of no vertices", comps.Check(api.Graph{}, nil), true)
	want(t, "Joined far away", comps.Joined(path(2), 0, math.MaxInt) || comps.Joined(path(2), math.MinInt, 1), false)
}

func TestP29_3(t *testing.T) {
	d := &dice{state: 3}
	for i := 0; i < 80; i++ {
		g := d.loose()
		labels, e := comps.Run(g, d.between(1, 4), d.between(1, 4))
		want(t, "labels", labels, labelsOf(g))
		want(t, "its error", e, api.OK)
		want(t, "Check", comps.Check(g, labels), true)
		for n := 0; n < 4 && g.N > 0; n++ {
			l := slices.Clone(labels)
			at := d.below(g.N)
			for l[at] == labels[at] {
				l[at] = int64(d.below(g.N+3)) - 1
			}
			want(t, "nothing else is right", comps.Check(g, l), false)
		}
	}
	labels, _ := comps.Run(api.Graph{N: 5, Edges: []api.Edge{{From: 2}, {From: 3, To: 1}}}, 2, 2)
	want(t, "2 to 0, and 3 to 1", labels, []int64{0, 1, 0, 1, 4})
}

func TestP29_4(t *testing.T) {
	d := &dice{state: 4}
	for i := 0; i < 200; i++ {
		g := d.graph(8, 6)
		g.N++
		a, b, c := d.below(g.N), d.below(g.N), d.below(g.N)
		want(t, "each with itself", comps.Joined(g, a, a), true)
		want(t, "from both sides", comps.Joined(g, a, b), comps.Joined(g, b, a))
		if comps.Joined(g, a, b) && comps.Joined(g, b, c) {
			want(t, "to a third", comps.Joined(g, a, c), true)
		}
		for _, e := range g.Edges {
			want(t, "along an edge", comps.Joined(g, e.From, e.To) && comps.Joined(g, e.To, e.From), true)
		}
	}
}

func TestP29_5(t *testing.T) {
	d := &dice{state: 5}
	for i := 0; i < 200; i++ {
		g := d.loose()
		labels := labelsOf(g)
		groups := comps.Groups(labels)
		want(t, "as many groups", len(groups), comps.Count(g))
		for _, l := range groups {
			want(t, "it begins with its label", labels[l[0]], int64(l[0]))
		}
	}
}

func TestP29_6(t *testing.T) {
	d := &dice{state: 6}
	for i := 0; i < 100; i++ {
		g := d.graph(9, 9)
		for _, e := range edges.Canon(g).Edges {
			for v := range g.N {
				in := slices.Contains(comps.Part(g, v).Edges, e)
				want(t, "in the Part of its group", in, comps.Joined(g, v, e.From))
			}
		}
		for v := range g.N {
			part := comps.Part(g, v)
			want(t, "a Part of a Part", comps.Part(part, v), part)
		}
	}
}

func TestCompsWhatever(t *testing.T) {
	whatever(t, 300, face{"comps.Setup", comps.Setup, false}, face{"comps.Run", comps.Run, false}, face{"comps.Check", comps.Check, false}, face{"comps.Groups", comps.Groups, false},
		face{"comps.Part", comps.Part, false}, face{"comps.Joined", comps.Joined, false}, face{"comps.Count", comps.Count, false},
		face{"comps.Run on few", func(g api.Graph, r, c int) ([]int64, api.Errno) { return comps.Run(g, r%4, c%4) }, false})
}
