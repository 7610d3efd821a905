package promises

import (
	"math"
	"slices"
	"testing"

	"fretwork/api"
	"fretwork/model"
	"fretwork/prog"
	"fretwork/vertex"
	"fretwork/wide"
)

// mailOf is what comes to each vertex, by other means.
func mailOf(p api.Plan, l []api.Edge, s api.State, round int) [][]api.Wide {
	told := inVec(outOf(p, s, round))
	out := make([][]api.Wide, p.N)
	for _, e := range l {
		if val, is := told[e.From]; is {
			out[e.To] = append(out[e.To], timesOf(ringOf(p.Kind, round), e.W, val))
		}
	}
	return out
}

func TestP35_1(t *testing.T) {
	d := &dice{}
	for i := 0; i < 300; i++ {
		for _, k := range allKinds {
			p, g := d.task(k)
			l, e := vertex.Links(p, g)
			want(t, "Links", l, namedGraph(k, g).Edges)
			want(t, "its error", e, api.OK)
			for n := d.below(5); n > 0; n-- {
				l = append(l, d.edge(p.N, 9))
			}
			s, round := d.someState(0, p.N), d.between(1, 9)
			mail, e := vertex.Mail(p, l, s, round)
			want(t, "Mail", mail, mailOf(p, l, s, round))
			want(t, "its error", e, api.OK)
			for _, bad := range []api.State{d.someState(1, p.N), d.someState(0, p.N-1), {}, {High: p.N, A: s.A, B: s.B}, {High: p.N, A: s.A[1:], B: s.B, On: s.On}, {High: p.N, A: s.A, B: s.B[1:], On: s.On}, {High: p.N, A: s.A, B: s.B, On: append(slices.Clone(s.On), 0)}, {Low: 1, High: p.N, A: s.A, B: s.B, On: s.On}, {Low: -1, High: p.N, A: s.A, B: s.B, On: s.On}, {High: p.N + 1, A: s.A, B: s.B, On: s.On}, {Low: 1, High: p.N + 1, A: s.A, B: s.B, On: s.On}} {
				mail, e = vertex.Mail(p, []api.Edge{{From: -1}}, bad, round)
				want(t, "Mail's error", e, api.ErrSize)
				want(t, "nothing beside it", mail, nil)
				x, e := vertex.Step(p, nil, bad, round)
				want(t, "Step's error", e, api.ErrSize)
				want(t, "nothing beside it", x, api.State{})
			}
			for _, link := range []api.Edge{{From: -1}, {From: p.N}, {To: -1}, {To: p.N}, {From: math.MaxInt}, {To: math.MinInt}} {
				mail, e = vertex.Mail(p, append(slices.Clone(l), link), s, round)
				want(t, "Mail's error", e, api.ErrRange)
				want(t, "nothing beside it", mail, nil)
				_, e = vertex.Step(p, []api.Edge{link}, s, round)
				want(t, "Step's error", e, api.ErrRange)
			}
			l, e = vertex.Links(p, api.Graph{N: p.N + 1, Edges: []api.Edge{{From: -1}}})
			want(t, "Links' error", e, api.ErrSize)
			want(t, "nothing beside it", l, nil)
			_, e = vertex.Links(p, api.Graph{N: p.N, Edges: []api.Edge{{W: -1}}})
			want(t, "Links' error", e, api.ErrValue)
		}
	}
	for e, l := range badPlans() {
		for _, p := range l {
			if e == api.OK {
				continue
			}
			_, got := vertex.Links(p, api.Graph{N: -1})
			want(t, "Links' error", got, e)
			_, got = vertex.Mail(p, []api.Edge{{From: -1}}, api.State{}, 1)
			want(t, "Mail's error", got, e)
			_, got = vertex.Step(p, []api.Edge{{From: -1}}, api.State{}, 1)
			want(t, "Step's error", got, e)
			_, got = vertex.Run(p, api.Graph{N: -1}, -1)
			want(t, "Run's error", got, e)
			_, got = vertex.Letters(p, api.Graph{N: -1}, -1)
			want(t, "Letters' error", got, e)
		}
	}
}

func TestP35_1_hear(t *testing.T) {
	d := &dice{state: 1}
	for i := 0; i < 2000; i++ {
		for _, k := range allKinds {
			round := d.between(1, 9)
			r := ringOf(k, round)
			var l []api.Wide
			for n := d.below(5); n > 0; n-- {
				if d.below(3) == 0 {
					l = append(l, d.wide())
				} else {
					l = append(l, wide.Of([]int64{0, 0, 1, 5, api.Inf, -1, d.odd()}[d.below(7)]))
				}
			}
			var val int64
			got, e := false, api.OK
			if len(l) > 0 {
				sum := l[0]
				for _, x := range l[1:] {
					sum = sumOf(r, sum, x)
				}
				n, ok := wide.Narrow(sum)
				switch {
				case !ok:
					e = api.ErrOver
				case takesLeast(r) && n != api.Inf || !takesLeast(r) && n != 0:
					val, got = n, true
				}
			}
			v, g, f := vertex.Hear(k, round, l)
			want(t, "Hear", v, val)
			want(t, "whether it hears something", g, got)
			want(t, "its error", f, e)
		}
	}
	for _, k := range []api.ProgKind{0, -1, 6, math.MaxInt} {
		val, got, e := vertex.Hear(k, 1, []api.Wide{{Lo: 1 << 63}})
		want(t, "Hear of no program", e, api.ErrKind)
		want(t, "nothing beside it", val == 0 && !got, true)
	}
	val, got, _ := vertex.Hear(api.Indep, 2, []api.Wide{{Lo: 7}})
	want(t, "a lone one stays", val == 7 && got, true)
}

func TestP35_2(t *testing.T) {
	d := &dice{state: 2}
	overs := 0
	for i := 0; i < 300; i++ {
		for _, k := range allKinds {
			p, g := d.task(k)
			l, _ := vertex.Links(p, g)
			m, _ := prog.Matrix(p, g)
			s, round := d.someState(0, p.N), d.between(1, 9)
			right, ok := stepOf(p, m, s, round)
			got, e := vertex.Step(p, l, s, round)
			want(t, "Step", got, right)
			want(t, "its error", e == api.ErrOver, !ok)
			if !ok {
				overs++
			}
			limit := []int{0, 1, 2, 5, 30}[d.below(5)]
			end, trace := runOf(p, g, limit)
			r, e := vertex.Run(p, g, limit)
			want(t, "Run", r, end)
			want(t, "its error", e, api.OK)
			many := 0
			for n := range trace[1:] {
				for _, x := range mailOf(p, namedGraph(k, g).Edges, trace[n], n+1) {
					many += len(x)
				}
			}
			n, e := vertex.Letters(p, g, limit)
			want(t, "Letters", n, many)
			want(t, "its error", e, api.OK)
		}
	}
	want(t, "some are over", overs > 3, true)
	p := api.Plan{Kind: api.Labels, N: 2}
	for _, c := range []struct {
		g     api.Graph
		limit int
	}{{api.Graph{N: 3}, -1}, {api.Graph{N: 2, Edges: []api.Edge{{To: 2}}}, 1}, {api.Graph{N: 2}, -1}, {api.Graph{N: 2}, 8193}, {api.Graph{N: 2}, 8192}} {
		r, e := vertex.Run(p, c.g, c.limit)
		want(t, "Run's error", e, model.Check(p, c.g, c.limit))
		want(t, "nothing beside it", e == api.OK || same(r, api.Result{}), true)
		n, e := vertex.Letters(p, c.g, c.limit)
		want(t, "Letters' error", e, model.Check(p, c.g, c.limit))
		want(t, "nothing beside it", n, 0)
	}
	first := api.State{High: 3, A: []int64{1 << 62, 1 << 62, 1 << 62}, B: []int64{-1, -1, -1}, On: []uint64{7}}
	x, e := vertex.Step(api.Plan{Kind: api.Walks, N: 3}, []api.Edge{{To: 1, W: 1}, {From: 1, To: 1, W: 1}, {To: 2, W: 1}}, first, 1)
	want(t, "over", e, api.ErrOver)
	want(t, "nothing beside it", x, api.State{})
}

func TestP35_3(t *testing.T) {
	d := &dice{state: 3}
	for i := 0; i < 200; i++ {
		for _, k := range allKinds {
			p, g := d.task(k)
			l, _ := vertex.Links(p, g)
			m, _ := prog.Matrix(p, g)
			s, round := d.someState(0, p.N), d.between(1, 9)
			a, e := vertex.Step(p, l, s, round)
			b, f := model.Step(p, m, s, round)
			want(t, "Step", a, b)
			want(t, "its error", e, f)
			limit := d.below(30)
			x, e := vertex.Run(p, g, limit)
			y, f := model.Run(p, g, limit)
			want(t, "Run", x, y)
			want(t, "its error", e, f)
		}
	}
}

func TestP35_4(t *testing.T) {
	d := &dice{state: 4}
	for i := 0; i < 200; i++ {
		for _, k := range allKinds {
			p, g := d.task(k)
			l, _ := vertex.Links(p, g)
			s, round := d.someState(0, p.N), d.between(1, 9)
			a, e := vertex.Step(p, l, s, round)
			for n := range l {
				o := d.below(n + 1)
				l[n], l[o] = l[o], l[n]
			}
			b, f := vertex.Step(p, l, s, round)
			want(t, "in whatever order", b, a)
			want(t, "in whatever order", f, e)
		}
	}
}

func TestP35_5(t *testing.T) {
	d := &dice{state: 5}
	for i := 0; i < 200; i++ {
		p, g := d.task(api.Levels)
		l, _ := vertex.Links(p, g)
		n, _ := vertex.Letters(p, g, 30)
		want(t, "at most one letter", n <= len(l), true)
		trace, _ := model.Trace(p, g, 30)
		reached := 0
		for _, e := range l {
			if trace[len(trace)-1].A[e.From] >= 0 {
				reached++
			}
		}
		want(t, "one of each link that is reached", n, reached)
	}
	p, g := api.Plan{Kind: api.Levels, N: 2}, path(2)
	n, _ := vertex.Letters(p, g, 9)
	want(t, "0 to 1", n, 1)
	n, _ = vertex.Letters(p, g, 0)
	want(t, "no superstep", n, 0)
	l, _ := vertex.Links(p, g)
	mail, _ := vertex.Mail(p, l, prog.Begin(p, 0, 2), 1)
	want(t, "1 hears 0", mail, [][]api.Wide{nil, {wide.Of(0)}})
}

func TestVertexWhatever(t *testing.T) {
	whatever(t, 300, face{"vertex.Links", vertex.Links, false}, face{"vertex.Mail", vertex.Mail, false}, face{"vertex.Hear", vertex.Hear, false}, face{"vertex.Step", vertex.Step, false},
		face{"vertex.Run", vertex.Run, false}, face{"vertex.Letters", vertex.Letters, false},
		face{"vertex.Mail, Step and Run of what fits", func(p api.Plan, g api.Graph, limit int) ([][]api.Wide, api.State, api.Result, []api.Edge, api.Errno) {
			p.N, limit = g.N, limit%30
			l, e := vertex.Links(p, g)
			if e != api.OK {
				return nil, api.State{}, api.Result{}, nil, e
			}
			s := prog.Begin(p, 0, p.N)
			mail, _ := vertex.Mail(p, l, s, 1)
			next, _ := vertex.Step(p, l, s, 1)
			r, _ := vertex.Run(p, g, limit)
			return mail, next, r, l, api.OK
		}, false})
}
