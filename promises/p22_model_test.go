package promises

import (
	"math"
	"testing"

	"fretwork/api"
	"fretwork/csr"
	"fretwork/edges"
	"fretwork/model"
	"fretwork/prog"
	"fretwork/wide"
)

func ringOf(k api.ProgKind, round int) api.Ring {
	switch {
	case k == api.Paths:
		return api.MinPlus
	case k == api.Walks:
		return api.PlusTimes
	case k == api.Indep && round%2 == 0:
		return api.OrAnd
	}
	return api.MinSecond
}

// stepOf is a superstep, by other means; false, if it is over.
func stepOf(p api.Plan, m api.Rows, s api.State, round int) (api.State, bool) {
	r := ringOf(p.Kind, round)
	var asked []int
	for i, a := range s.A {
		if p.Kind == api.Levels && a == -1 || p.Kind == api.Indep && a == 0 || p.Kind != api.Levels && p.Kind != api.Indep {
			asked = append(asked, i)
		}
	}
	in := map[int]int64{}
	for _, x := range sums(r, m, outOf(p, s, round), bitsOf(wordsOf(p.N), asked), false) {
		val, ok := wide.Narrow(x.Val)
		if !ok {
			return api.State{}, false
		}
		if takesLeast(r) && val == api.Inf || !takesLeast(r) && val == 0 {
			continue
		}
		in[x.At] = val
	}
	return updateOf(p, s, round, vecOf(p.N, in)), true
}

// runOf is a run, by other means, and its states.
func runOf(p api.Plan, g api.Graph, limit int) (api.Result, []api.State) {
	m, _ := csr.Graph(namedGraph(p.Kind, g))
	var first []one
	for at := range p.N {
		first = append(first, firstOf(p, at))
	}
	now := api.Result{State: stateOf(0, first)}
	l := []api.State{now.State}
	for {
		switch {
		case liveOf(p, now.State, now.Rounds) == 0:
			now.Status = api.Done
			return now, l
		case now.Rounds == limit:
			now.Status = api.Limit
			return now, l
		}
		next, ok := stepOf(p, m, now.State, now.Rounds+1)
		if !ok {
			now.Status = api.Overflow
			return now, l
		}
		now.State, now.Rounds = next, now.Rounds+1
		l = append(l, next)
	}
}

// steep is a graph whose walks are soon too many to be counted.
func steep(n int) api.Graph {
	g := api.Graph{N: n}
	for i := range n {
		for k := range n {
			g.Edges = append(g.Edges, api.Edge{From: i, To: k, W: api.MaxWeight})
		}
	}
	return g
}

// task is a plan and a graph that fit.
func (d *dice) task(k api.ProgKind) (api.Plan, api.Graph) {
	g := d.graph(9, 20)
	g.N++
	switch d.below(8) {
	case 0:
		g = path(g.N)
	case 1:
		g = circle(g.N)
	case 2:
		g = steep(d.between(1, 4))
	}
	p := d.plan(k, g.N)
	if d.coin() {
		p.Length = d.below(20)
	}
	return p, g
}

func TestP22_1(t *testing.T) {
	d := &dice{}
	overs := 0
	for i := 0; i < 400; i++ {
		for _, k := range allKinds {
			p, g := d.task(k)
			m, _ := csr.Graph(namedGraph(k, g))
			s, round := d.someState(0, p.N), d.between(1, 9)
			right, ok := stepOf(p, m, s, round)
			re := api.OK
			if !ok {
				re = api.ErrOver
				overs++
			}
			got, e := model.Step(p, m, s, round)
			want(t, "Step", got, right)
			want(t, "its error", e, re)
			want(t, "Check", model.Check(p, g, d.below(8193)), api.OK)
			small := rowsOf(p.N-1, p.N, nil)
			for _, c := range []struct {
				m api.Rows
				s api.State
			}{{small, s}, {csr.Turn(small), s}, {badMatrixOf(p.N), s}, {m, d.someState(1, p.N)}, {m, d.someState(0, p.N-1)}, {m, api.State{}}, {m, api.State{High: p.N, A: s.A, B: s.B}}, {m, api.State{Low: 1, High: p.N, A: s.A, B: s.B, On: s.On}}, {m, api.State{Low: 1, High: p.N + 1, A: s.A, B: s.B, On: s.On}}, {m, api.State{High: p.N + 1, A: s.A, B: s.B, On: s.On}}, {m, api.State{High: p.N, A: s.A[1:], B: s.B, On: s.On}}, {m, api.State{High: p.N, A: s.A, B: s.B[1:], On: s.On}}} {
				got, e = model.Step(p, c.m, c.s, round)
				want(t, "Step's error", e, api.ErrSize)
				want(t, "nothing beside it", got, api.State{})
			}
		}
	}
	want(t, "some are over", overs > 5, true)
	for e, l := range badPlans() {
		for _, p := range l {
			if e == api.OK {
				continue
			}
			_, got := model.Step(p, noMatrix, api.State{}, 1)
			want(t, "Step's error", got, e)
			want(t, "Check's error", model.Check(p, api.Graph{N: -1}, -1), e)
		}
	}
	p := api.Plan{Kind: api.Labels, N: 2}
	for _, c := range []struct {
		g     api.Graph
		limit int
		e     api.Errno
	}{{api.Graph{N: 3}, -1, api.ErrSize}, {api.Graph{N: 2, Edges: []api.Edge{{To: 2}}}, -1, api.ErrRange}, {api.Graph{N: 2, Edges: []api.Edge{{W: -1}}}, 9000, api.ErrValue}, {api.Graph{N: 2}, -1, api.ErrRange}, {api.Graph{N: 2}, 8193, api.ErrRange}, {api.Graph{N: 2}, math.MaxInt, api.ErrRange}, {api.Graph{N: 2}, 8192, api.OK}, {api.Graph{N: 2}, 0, api.OK}} {
		want(t, "Check's error", model.Check(p, c.g, c.limit), c.e)
		r, e := model.Run(p, c.g, c.limit)
		want(t, "Run's error", e, c.e)
		l, e := model.Trace(p, c.g, c.limit)
		want(t, "Trace's error", e, c.e)
		if c.e != api.OK {
			want(t, "nothing beside it", r, api.Result{})
			want(t, "nothing beside it", l, nil)
		}
	}
	for i, s := range badStates() {
		_, e := model.Step(api.Plan{Kind: api.Labels}, noMatrix, s, 1)
		if e != api.ErrSize {
			t.Errorf("Step of the bad state %d: %d", i, e)
		}
	}
	got, e := model.Step(api.Plan{Kind: api.Labels}, badMatrices()[0], api.State{}, 1)
	want(t, "Step of no vertices", got, api.State{})
	want(t, "Step of no vertices", e, api.OK)
}

// badMatrixOf is a matrix of n rows and columns that can't be.
func badMatrixOf(n int) api.Rows {
	m := rowsOf(n, n, nil)
	m.Start[0] = 1
	return m
}

func TestP22_2(t *testing.T) {
	d := &dice{state: 2}
	seen := map[api.Status]int{}
	for i := 0; i < 300; i++ {
		for _, k := range allKinds {
			p, g := d.task(k)
			limit := []int{0, 1, 2, 3, 5, 30}[d.below(6)]
			right, states := runOf(p, g, limit)
			seen[right.Status]++
			r, e := model.Run(p, g, limit)
			want(t, "Run", r, right)
			want(t, "its error", e, api.OK)
			l, e := model.Trace(p, g, limit)
			want(t, "Trace", l, states)
			want(t, "its error", e, api.OK)
			want(t, "Same", model.Same(r, right), true)
			for i, change := range []func(r *api.Result){func(r *api.Result) { r.Status++ }, func(r *api.Result) { r.Rounds++ }, func(r *api.Result) { r.State = d.someState(0, p.N+1) }} {
				other := r
				change(&other)
				if model.Same(r, other) || model.Same(other, r) {
					t.Errorf("Same of the case %d", i)
				}
			}
		}
	}
	want(t, "all statuses", seen[api.Done] > 50 && seen[api.Limit] > 50 && seen[api.Overflow] > 10, true)
	r, _ := model.Run(api.Plan{Kind: api.Levels, N: 3}, path(3), 9)
	want(t, "a path", r, api.Result{Status: api.Done, Rounds: 3, State: api.State{High: 3, A: []int64{0, 1, 2}, B: []int64{-1, 0, 1}, On: []uint64{0}}})
}

func TestP22_3(t *testing.T) {
	d := &dice{state: 3}
	for i := 0; i < 200; i++ {
		for _, k := range allKinds {
			p, g := d.task(k)
			limit := d.below(12)
			l, _ := model.Trace(p, g, limit)
			m, _ := prog.Matrix(p, g)
			for round := 1; round < len(l); round++ {
				next, e := model.Step(p, m, l[round-1], round)
				want(t, "step by step", next, l[round])
				want(t, "its error", e, api.OK)
			}
			r, _ := model.Run(p, g, limit)
			want(t, "the last one", l[len(l)-1], r.State)
			want(t, "as many", len(l), r.Rounds+1)
			want(t, "the first one", l[0], prog.Begin(p, 0, p.N))
		}
	}
}

func TestP22_4(t *testing.T) {
	d := &dice{state: 4}
	for i := 0; i < 200; i++ {
		for _, k := range allKinds {
			p, g := d.task(k)
			long, _ := model.Run(p, g, 30)
			l, _ := model.Trace(p, g, 30)
			for limit := 0; limit < 8; limit++ {
				r, _ := model.Run(p, g, limit)
				right := long
				if limit < long.Rounds || limit == long.Rounds && long.Status == api.Overflow {
					right = api.Result{Status: api.Limit, Rounds: limit, State: l[limit]}
				}
				want(t, "with less limit", r, right)
			}
		}
	}
}

func TestP22_5(t *testing.T) {
	d := &dice{state: 5}
	for i := 0; i < 300; i++ {
		for _, k := range []api.ProgKind{api.Levels, api.Paths, api.Labels, api.Indep} {
			p, g := d.task(k)
			limit := p.N + 1
			if k == api.Indep {
				limit = 2 * p.N
			}
			r, _ := model.Run(p, g, limit)
			want(t, "it ends", r.Status, api.Done)
		}
	}
}

func TestP22_6(t *testing.T) {
	d := &dice{state: 6}
	for i := 0; i < 300; i++ {
		for _, k := range []api.ProgKind{api.Levels, api.Paths, api.Labels, api.Indep} {
			p, g := d.task(k)
			r, _ := model.Run(p, g, d.below(30))
			want(t, "nothing but Walks overflows", r.Status != api.Overflow, true)
		}
	}
	r, _ := model.Run(api.Plan{Kind: api.Walks, N: 2, Length: 50}, steep(2), 60)
	want(t, "Walks overflow", r.Status, api.Overflow)
	want(t, "behind the supersteps that are completed", r.Rounds, 2)
	want(t, "with what they had", r.State.A, []int64{2 * api.MaxWeight * api.MaxWeight, 2 * api.MaxWeight * api.MaxWeight})
	g := edges.Both(path(5))
	r, _ = model.Run(api.Plan{Kind: api.Walks, N: 5, Source: 2, Length: 4}, g, 60)
	want(t, "walks of four edges", r.State.A, []int64{3, 0, 6, 0, 3})
}

func TestModelWhatever(t *testing.T) {
	whatever(t, 300, face{"model.Step", model.Step, false}, face{"model.Check", model.Check, false}, face{"model.Run", model.Run, false},
		face{"model.Trace", model.Trace, false}, face{"model.Same", model.Same, false},
		face{"model.Run and Trace of what fits", func(p api.Plan, g api.Graph, limit int) (api.Result, []api.State, api.Errno) {
			p.N, p.Length, limit = g.N, p.Length%40, limit%40
			r, e := model.Run(p, g, limit)
			l, f := model.Trace(p, g, limit)
			if e != f {
				t.Error("Run and Trace tell errors of their own")
			}
			return r, l, e
		}, false})
}
