package promises

import (
	"math"
	"slices"
	"testing"

	"fretwork/api"
	"fretwork/csr"
	"fretwork/edges"
	"fretwork/flags"
	"fretwork/prog"
	"fretwork/pull"
	"fretwork/spvec"
)

var allKinds = []api.ProgKind{api.Levels, api.Paths, api.Labels, api.Walks, api.Indep}

// plan is a plan that can be, of n vertices, of which there is one at least.
func (d *dice) plan(k api.ProgKind, n int) api.Plan {
	p := api.Plan{Kind: k, N: n, Source: d.below(n), Length: d.below(6)}
	for i := d.below(5); i > 0; i-- {
		p.Draws = append(p.Draws, int64(d.below(4)))
	}
	return p
}

// state is a state of the vertices from low on, up to high, as it may come up, or not.
func (d *dice) someState(low, high int) api.State {
	s := api.State{Low: low, High: high, On: flags.New(high - low)}
	for i := range high - low {
		s.A = append(s.A, []int64{-1, 0, 1, 2, int64(d.below(9)), api.Inf}[d.below(6)])
		s.B = append(s.B, int64(d.below(5))-1)
		if d.coin() {
			s.On = flags.Put(s.On, i)
		}
	}
	return s
}

func init() {
	maker(func(d *dice) api.ProgKind { return api.ProgKind(d.below(7)) })
	maker(func(d *dice) api.Plan { return d.plan(allKinds[d.below(5)], d.between(1, 9)) })
	maker(func(d *dice) api.State { n := d.below(9); return d.someState(0, n) })
}

// badStates can't be, of whatever plan.
func badStates() []api.State {
	return []api.State{
		{Low: -1, High: 1, A: []int64{0, 0}, B: []int64{0, 0}, On: []uint64{0}}, {Low: 2, High: 1}, {Low: 0, High: 4097, A: make([]int64, 4097), B: make([]int64, 4097), On: make([]uint64, 65)},
		{High: 2, A: []int64{0}, B: []int64{0, 0}, On: []uint64{0}}, {High: 2, A: []int64{0, 0}, B: []int64{0}, On: []uint64{0}}, {High: 2, A: []int64{0, 0}, B: []int64{0, 0}},
		{High: 2, A: []int64{0, 0}, B: []int64{0, 0}, On: []uint64{4}}, {High: 2, A: []int64{0, 0}, B: []int64{0, 0}, On: []uint64{0, 0}}, {A: []int64{0}}, {B: []int64{0}}, {On: []uint64{0}}, {High: math.MaxInt}, {Low: math.MinInt, High: math.MaxInt},
	}
}

// badPlans can't be, each by one thing.
func badPlans() map[api.Errno][]api.Plan {
	long := make([]int64, api.MaxDraws+1)
	wrong := []int64{0, -1}
	return map[api.Errno][]api.Plan{
		api.ErrKind:  {{}, {Kind: -1, N: 1}, {Kind: 6, N: -1}, {Kind: math.MaxInt, Draws: wrong}},
		api.ErrRange: {{Kind: 1}, {Kind: 1, N: 2, Source: 2, Draws: long}, {Kind: 2, N: 2, Source: -1}, {Kind: 4, N: 2, Source: 2}, {Kind: 3, N: -1, Draws: long}, {Kind: 3, N: 4097, Draws: wrong}, {Kind: 5, N: -1}, {Kind: 5, N: math.MaxInt}, {Kind: 1, N: 4097}, {Kind: 2, N: 4097, Source: 4096}, {Kind: 4, N: 1, Length: -1}, {Kind: 4, N: 1, Length: 8193, Draws: long}, {Kind: 4, N: 4097}},
		api.ErrLong:  {{Kind: 5, Draws: long}, {Kind: 1, N: 1, Draws: append(slices.Clone(long), -1)}},
		api.ErrValue: {{Kind: 5, Draws: wrong}, {Kind: 1, N: 1, Draws: []int64{api.MaxWeight + 1}}, {Kind: 3, Draws: []int64{math.MinInt64}}},
		api.OK:       {{Kind: 3}, {Kind: 5}, {Kind: 5, N: 4096, Source: -9, Length: -9, Draws: long[1:]}, {Kind: 3, N: 1, Source: 7, Length: math.MaxInt}, {Kind: 1, N: 4096, Source: 4095, Length: -5}, {Kind: 4, N: 1, Length: 8192, Draws: []int64{0, api.MaxWeight}}, {Kind: 2, N: 1, Length: 9000}},
	}
}

// namedGraph is the graph whose matrix a program takes.
func namedGraph(k api.ProgKind, g api.Graph) api.Graph {
	switch k {
	case api.Levels:
		return edges.Plain(g)
	case api.Labels:
		return edges.Plain(edges.Both(g))
	case api.Indep:
		return edges.Plain(edges.Both(edges.Simple(g)))
	}
	return edges.Canon(g)
}

func drawOf(p api.Plan, draw, v int) int64 {
	if draw < 0 || draw > api.MaxSupers {
		return 0
	}
	n := int64(0)
	if len(p.Draws) > 0 {
		n = p.Draws[(draw*p.N+v)%len(p.Draws)]
	}
	return n*4096 + int64(v)
}

func TestP21_1(t *testing.T) {
	for e, l := range badPlans() {
		for i, p := range l {
			if got := prog.Right(p); got != e {
				t.Errorf("Right of the plan %d of %d: %d", i, e, got)
			}
			if e != api.OK {
				m, got := prog.Matrix(p, api.Graph{N: -1})
				want(t, "Matrix' error", got, e)
				want(t, "nothing beside it", m, api.Rows{})
				want(t, "Draw", prog.Draw(p, 0, 1), 0)
				want(t, "Draw", prog.Draw(p, 0, 0), 0)
			}
		}
	}
	for _, round := range []int{math.MinInt, -3, -2, -1, 0, 1, 2, 3, 8191, 8192, math.MaxInt} {
		indep := api.MinSecond
		if round%2 == 0 {
			indep = api.OrAnd
		}
		for k, r := range map[api.ProgKind]api.Ring{0: 0, -1: 0, 6: 0, api.Levels: api.MinSecond, api.Paths: api.MinPlus, api.Labels: api.MinSecond, api.Walks: api.PlusTimes, api.Indep: indep} {
			want(t, "Ring", prog.Ring(k, round), r)
		}
	}
	d := &dice{}
	for i := 0; i < 300; i++ {
		g := d.graph(7, 15)
		g.N++
		for _, k := range allKinds {
			p := d.plan(k, g.N)
			m, e := prog.Matrix(p, g)
			right, _ := csr.Graph(namedGraph(k, g))
			want(t, "Matrix", m, right)
			want(t, "its error", e, api.OK)
			for round := -2; round < 6; round++ {
				for v := -2; v < p.N+2; v++ {
					n := int64(0)
					if v >= 0 && v < p.N {
						n = drawOf(p, round, v)
					}
					want(t, "Draw", prog.Draw(p, round, v), n)
				}
			}
			for _, bad := range []struct {
				g api.Graph
				e api.Errno
			}{{api.Graph{N: p.N + 1, Edges: []api.Edge{{From: -1}}}, api.ErrSize}, {api.Graph{N: p.N, Edges: []api.Edge{{To: p.N}}}, api.ErrRange}, {api.Graph{N: p.N, Edges: []api.Edge{{W: -1}}}, api.ErrValue}} {
				m, e = prog.Matrix(p, bad.g)
				want(t, "Matrix' error", e, bad.e)
				want(t, "nothing beside it", m, api.Rows{})
			}
		}
	}
	p := api.Plan{Kind: api.Indep, N: 4096, Draws: []int64{api.MaxWeight, 3}}
	for _, round := range []int{0, 1, 8191, 8192, 8193, math.MaxInt, -1, math.MinInt} {
		for _, v := range []int{0, 1, 4095} {
			want(t, "Draw", prog.Draw(p, round, v), drawOf(p, round, v))
		}
	}
	want(t, "Draw without Draws", prog.Draw(api.Plan{Kind: api.Indep, N: 9}, 3, 7), 7)
	many := crowd(250, 40000)
	_, e := prog.Matrix(api.Plan{Kind: api.Labels, N: 250}, many)
	want(t, "as many edges as there may be, both ways", e, api.OK)
}

// one is what a vertex has.
type one struct {
	a, b int64
	on   bool
}

// ones is what a state has, vertex by vertex.
func ones(s api.State) []one {
	var l []one
	for i := range s.A {
		l = append(l, one{s.A[i], s.B[i], s.On[i/64]>>(i%64)&1 == 1})
	}
	return l
}

func stateOf(low int, l []one) api.State {
	s := api.State{Low: low, High: low + len(l), On: make([]uint64, wordsOf(len(l)))}
	for i, x := range l {
		s.A = append(s.A, x.a)
		s.B = append(s.B, x.b)
		if x.on {
			s.On[i/64] |= 1 << (i % 64)
		}
	}
	return s
}

func firstOf(p api.Plan, at int) one {
	source := at == p.Source
	switch {
	case p.Kind == api.Levels && source:
		return one{0, -1, true}
	case p.Kind == api.Levels:
		return one{-1, -1, false}
	case p.Kind == api.Paths && source:
		return one{0, -1, true}
	case p.Kind == api.Paths:
		return one{api.Inf, -1, false}
	case p.Kind == api.Labels:
		return one{int64(at), -1, true}
	case p.Kind == api.Walks && source:
		return one{1, -1, true}
	}
	return one{0, -1, false}
}

func outOf(p api.Plan, s api.State, round int) api.Vec {
	in := map[int]int64{}
	for i, x := range ones(s) {
		switch {
		case p.Kind == api.Indep && round%2 != 0:
			if x.a == 0 {
				in[i] = drawOf(p, int(math.Floor(float64(round-1)/2)), s.Low+i)
			}
		case !x.on:
		case p.Kind == api.Levels:
			in[i] = int64(s.Low + i)
		case p.Kind == api.Indep:
			in[i] = 1
		default:
			in[i] = x.a
		}
	}
	return vecOf(len(s.A), in)
}

func updateOf(p api.Plan, s api.State, round int, y api.Vec) api.State {
	in := inVec(y)
	l := ones(s)
	for i, x := range l {
		val, got := in[i]
		was := x
		x.on = false
		switch {
		case p.Kind == api.Levels:
			if was.a == -1 && got {
				x = one{int64(round), val, true}
			}
		case p.Kind == api.Paths || p.Kind == api.Labels:
			if got && val < was.a {
				x = one{val, was.b, true}
			}
		case p.Kind == api.Walks:
			x = one{val, was.b, val != 0}
		case round%2 != 0:
			if was.a == 0 && (!got || val > drawOf(p, (round-1)/2, s.Low+i)) {
				x = one{1, was.b, true}
			}
		case was.a == 0 && got:
			x.a = 2
		}
		l[i] = x
	}
	return stateOf(s.Low, l)
}

func liveOf(p api.Plan, s api.State, round int) int {
	n := 0
	for _, x := range ones(s) {
		if p.Kind == api.Indep && x.a == 0 || p.Kind != api.Indep && x.on && !(p.Kind == api.Walks && round >= p.Length) {
			n++
		}
	}
	return n
}

// some is bounds within n.
func (d *dice) some(n int) (low, high int) {
	low, high = d.below(n+1), d.below(n+1)
	return min(low, high), max(low, high)
}

func TestP21_2(t *testing.T) {
	d := &dice{state: 2}
	for i := 0; i < 500; i++ {
		for _, k := range allKinds {
			p := d.plan(k, d.places()+1)
			low, high := d.some(p.N)
			var first []one
			for at := low; at < high; at++ {
				first = append(first, firstOf(p, at))
			}
			want(t, "Begin", prog.Begin(p, low, high), stateOf(low, first))
			s, round := d.someState(low, high), d.below(9)
			want(t, "Out", prog.Out(p, s, round), outOf(p, s, round))
			var asked []int
			for at, a := range s.A {
				if k == api.Levels && a == -1 || k == api.Indep && a == 0 {
					asked = append(asked, at)
				}
			}
			set, others := prog.Asked(p, s, round)
			if k == api.Levels || k == api.Indep {
				want(t, "Asked", set, flags.Of(high-low, asked...))
				want(t, "just these", others, false)
			} else {
				want(t, "Asked", set, nil)
				want(t, "all", others, true)
			}
		}
	}
	p := api.Plan{Kind: api.Indep, N: 3, Draws: []int64{5}}
	for _, round := range []int{-3, -1, 1, 16385, 16387, math.MaxInt, math.MinInt + 1} {
		want(t, "Out of a far superstep", prog.Out(p, prog.Begin(p, 0, 3), round), outOf(p, prog.Begin(p, 0, 3), round))
	}
	for _, b := range [][2]int{{-1, 2}, {2, 1}, {0, 4}, {4, 4}, {math.MinInt, math.MaxInt}} {
		want(t, "Begin of none", prog.Begin(p, b[0], b[1]), api.State{})
	}
	want(t, "Begin of no vertices", prog.Begin(p, 3, 3), api.State{Low: 3, High: 3})
	want(t, "Levels of 3 from 1", prog.Begin(api.Plan{Kind: api.Levels, N: 3, Source: 1}, 0, 3), api.State{High: 3, A: []int64{-1, 0, -1}, B: []int64{-1, -1, -1}, On: []uint64{2}})
}

func TestP21_2_wrong(t *testing.T) {
	for e, l := range badPlans() {
		for _, p := range l {
			if e == api.OK {
				continue
			}
			s := api.State{High: 1, A: []int64{0}, B: []int64{0}, On: []uint64{1}}
			want(t, "Begin", prog.Begin(p, 0, 1), api.State{})
			want(t, "Out", prog.Out(p, s, 1), api.Vec{})
			want(t, "Update", prog.Update(p, s, 1, api.Vec{N: 1}), api.State{})
			want(t, "Live", prog.Live(p, s, 0), 0)
			set, others := prog.Asked(p, s, 1)
			want(t, "Asked", set, nil)
			want(t, "all, but of Levels and Indep", others, p.Kind != api.Levels && p.Kind != api.Indep)
		}
	}
	for _, k := range allKinds {
		p := api.Plan{Kind: k, N: 4096, Length: 5}
		for i, s := range badStates() {
			set, others := prog.Asked(p, s, 1)
			if len(prog.Out(p, s, 1).Items) > 0 || prog.Out(p, s, 1).N != 0 || len(set) > 0 || others == (k == api.Levels || k == api.Indep) || prog.Live(p, s, 0) != 0 {
				t.Errorf("the bad state %d has something", i)
			}
			want(t, "Update of what can't be", prog.Update(p, s, 1, api.Vec{N: 2}), api.State{})
		}
		p.N = 2
		above := stateOf(2, []one{{0, 0, true}})
		want(t, "a state above the plan's", prog.Out(p, above, 1), api.Vec{})
		want(t, "a state above the plan's", prog.Live(p, above, 0), 0)
	}
}

func TestP21_3(t *testing.T) {
	d := &dice{state: 3}
	for i := 0; i < 600; i++ {
		for _, k := range allKinds {
			p := d.plan(k, d.places()+1)
			low, high := d.some(p.N)
			s, round := d.someState(low, high), d.between(1, 9)
			y := d.vec(api.MinPlus, high-low)
			if d.coin() {
				for at := range y.Items {
					y.Items[at].Val = []int64{0, 1, int64(d.below(9)), drawOf(p, (round-1)/2, low+y.Items[at].At) + int64(d.below(3)) - 1}[d.below(4)]
				}
			}
			want(t, "Update", prog.Update(p, s, round, y), updateOf(p, s, round, y))
			for _, n := range []int{0, 1, 2, 4, 5, 6, math.MaxInt} {
				want(t, "Live", prog.Live(p, s, n), liveOf(p, s, n))
			}
			for _, bad := range []api.Vec{{N: y.N + 1}, {N: y.N - 1}, {N: y.N, Items: []api.Item{{At: y.N}}}} {
				want(t, "Update by what can't be", prog.Update(p, s, round, bad), s)
			}
			want(t, "Same", prog.Same(s, stateOf(s.Low, ones(s))), true)
			if high > low {
				for i, change := range []func(s *api.State){
					func(s *api.State) { s.Low++; s.High++ }, func(s *api.State) { s.Low-- }, func(s *api.State) { s.High++ }, func(s *api.State) { s.A[0]++ }, func(s *api.State) { s.B[0]++ }, func(s *api.State) { s.On[0] ^= 1 }, func(s *api.State) { *s = api.State{} },
					func(s *api.State) {
						s.High--
						s.A, s.B = s.A[1:], s.B[1:]
						s.On = flags.Part(s.On, 1, high-low)
					},
				} {
					other := stateOf(s.Low, ones(s))
					change(&other)
					if prog.Same(s, other) || prog.Same(other, s) {
						t.Errorf("Same of the case %d", i)
					}
				}
			}
		}
	}
}

func TestP21_4(t *testing.T) {
	d := &dice{state: 4}
	for i := 0; i < 300; i++ {
		for _, k := range allKinds {
			p := d.plan(k, d.places()+1)
			round := d.between(1, 6)
			low, mid := 0, d.below(p.N+1)
			s := d.someState(0, p.N)
			y := d.vec(api.MinPlus, p.N)
			l := ones(s)
			var outs []api.Vec
			var begun, updated []one
			var asked []uint64
			live := 0
			for _, b := range [][2]int{{low, mid}, {mid, p.N}} {
				part := stateOf(b[0], l[b[0]:b[1]])
				begun = append(begun, ones(prog.Begin(p, b[0], b[1]))...)
				outs = append(outs, prog.Out(p, part, round))
				updated = append(updated, ones(prog.Update(p, part, round, spvec.Part(y, b[0], b[1])))...)
				set, _ := prog.Asked(p, part, round)
				var at []int
				for _, x := range flags.List(set) {
					at = append(at, b[0]+x)
				}
				asked = flags.Union(asked, flags.Of(p.N, at...))
				live += prog.Live(p, part, round)
			}
			out, _ := spvec.Glue(outs...)
			set, others := prog.Asked(p, s, round)
			want(t, "Begin", stateOf(0, begun), prog.Begin(p, 0, p.N))
			want(t, "Out", out, prog.Out(p, s, round))
			want(t, "Update", stateOf(0, updated), prog.Update(p, s, round, y))
			want(t, "Live", live, prog.Live(p, s, round))
			if !others {
				want(t, "Asked", asked, set)
			}
		}
	}
}

func TestP21_5(t *testing.T) {
	d := &dice{state: 5}
	for i := 0; i < 200; i++ {
		g := d.graph(9, 20)
		g.N++
		for _, k := range []api.ProgKind{api.Levels, api.Paths, api.Labels, api.Indep} {
			p := d.plan(k, g.N)
			m, _ := prog.Matrix(p, g)
			s := prog.Begin(p, 0, p.N)
			for round := 1; round < 8; round++ {
				set, others := prog.Asked(p, s, round)
				y, _ := pull.Times(prog.Ring(k, round), m, denseOf(prog.Out(p, s, round)), set, others)
				next := prog.Update(p, s, round, y)
				for at, a := range next.A {
					was := s.A[at]
					if k == api.Indep {
						want(t, "it never goes back", a == was || was == 0, true)
					} else {
						want(t, "it never rises, but from -1", a <= was || was == -1, true)
					}
				}
				s = next
			}
		}
	}
}

func TestProgWhatever(t *testing.T) {
	whatever(t, 600, face{"prog.Right", prog.Right, false}, face{"prog.Ring", prog.Ring, false}, face{"prog.Matrix", prog.Matrix, false}, face{"prog.Draw", prog.Draw, false},
		face{"prog.Begin", prog.Begin, false}, face{"prog.Out", prog.Out, false}, face{"prog.Asked", prog.Asked, true}, face{"prog.Update", prog.Update, false},
		face{"prog.Live", prog.Live, false}, face{"prog.Same", prog.Same, false},
		face{"prog.Update of what fits", func(p api.Plan, s api.State, round int, l []api.Item) (api.State, api.Vec, []uint64) {
			p.N = max(p.N, s.High)
			set, _ := prog.Asked(p, s, round)
			return prog.Update(p, s, round, api.Vec{N: len(s.A), Items: l}), prog.Out(p, s, round), set
		}, false})
}
