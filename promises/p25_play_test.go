package promises

import (
	"math"
	"slices"
	"testing"

	"fretwork/api"
	"fretwork/grid"
	"fretwork/model"
	"fretwork/play"
)

// move is a move that can be, on a grid of so many workers, or nearly.
func (d *dice) move(workers int) api.Move {
	m := api.Move{Kind: api.MoveKind(d.between(1, 5)), A: d.below(workers), B: d.below(workers), K: d.below(3)}
	if d.below(9) == 0 {
		m.A = d.below(64)
	}
	if m.Kind == api.Fair && d.below(6) > 0 {
		m.Kind = api.Send
	}
	return m
}

// script is so many moves at most.
func (d *dice) script(workers, most int) []api.Move {
	var l []api.Move
	for n := d.below(most + 1); n > 0; n-- {
		l = append(l, d.move(workers))
	}
	return l
}

func init() {
	maker(func(d *dice) api.Move { return d.move(4) })
}

// badMoves can't be, each by one thing.
var badMoves = []api.Move{{}, {Kind: 6}, {Kind: -1}, {Kind: 1, A: -1}, {Kind: 1, A: 64}, {Kind: 2, B: -1}, {Kind: 3, B: 64}, {Kind: 4, K: -1}, {Kind: 2, K: 64}, {Kind: 5, A: math.MaxInt}, {Kind: 5, K: math.MinInt}, {Kind: math.MaxInt}, {Kind: 1, B: -1}, {Kind: 5, K: 64}}

func TestP25_1(t *testing.T) {
	for _, m := range badMoves {
		want(t, "Right", play.Right(m), false)
	}
	for kind := api.Send; kind <= api.Fair; kind++ {
		want(t, "Right", play.Right(api.Move{Kind: kind}) && play.Right(api.Move{Kind: kind, A: 63, B: 63, K: 63}), true)
	}
	for e, l := range badSetups() {
		for _, s := range l {
			want(t, "Check's error of a setup", play.Check(s, nil, 0), e)
			if e != api.OK {
				want(t, "a setup ahead of a script", play.Check(s, badMoves, -1), e)
				want(t, "Bound of a setup that can't be", play.Bound(s, 3), 0)
			}
		}
	}
	s := tiny()
	long := make([]api.Move, api.MaxActs+1)
	fair := slices.Repeat([]api.Move{{Kind: api.Fair}}, api.MaxActs)
	for _, c := range []struct {
		l       []api.Move
		windows int
		e       api.Errno
	}{{long, -1, api.ErrLong}, {long[1:], -1, api.ErrKind}, {fair, -1, api.ErrRange}, {fair, 1 << 20, api.OK}, {nil, 1<<20 + 1, api.ErrRange}, {nil, math.MaxInt, api.ErrRange}, {nil, math.MinInt, api.ErrRange}, {[]api.Move{{Kind: 1}, {Kind: 1, K: 64}}, 0, api.ErrKind}, {nil, 0, api.OK}} {
		want(t, "Check's error", play.Check(s, c.l, c.windows), c.e)
		if c.e != api.OK {
			r, e := play.Run(s, c.l, c.windows)
			want(t, "Run's error", e, c.e)
			want(t, "nothing beside it", r, api.Report{})
			l, e := play.Trace(s, c.l, c.windows)
			want(t, "Trace's error", e, c.e)
			want(t, "nothing beside it", l, nil)
		}
	}
	for _, r := range []int{1, 2, 8} {
		for _, c := range []int{1, 3, 8} {
			s.R, s.C = r, c
			for _, rounds := range []int{0, 1, 7, 8192} {
				want(t, "Bound", play.Bound(s, rounds), 4*(r+c+4)*(rounds+2))
			}
			for _, rounds := range []int{-1, 8193, math.MaxInt, math.MinInt} {
				want(t, "Bound of none", play.Bound(s, rounds), 0)
			}
		}
	}
}

// follow is a grid to which moves are done, one behind the other.
func follow(g *grid.Grid, l []api.Move) {
	for _, m := range l {
		switch m.Kind {
		case api.Send:
			g.Pick(m.A)
		case api.Hand:
			g.Deliver(m.A, m.B, m.K)
		case api.Twice:
			g.Double(m.A, m.B, m.K)
		case api.Last:
			g.Move(m.A, m.B, m.K)
		case api.Fair:
			g.Window()
		}
	}
}

func TestP25_2(t *testing.T) {
	d := &dice{state: 2}
	starved := 0
	for i := 0; i < 80; i++ {
		for _, kind := range allKinds {
			s := d.setup(kind)
			l, windows := d.script(s.R*s.C, 400), []int{0, 1, 10, 3000}[d.below(4)]
			g := newGrid(t, s)
			follow(g, l)
			right := api.Report{}
			for !g.Ended() && right.Windows < windows {
				g.Window()
				right.Windows++
			}
			right.Result, right.Sent = g.Result(), g.Sent()
			if !g.Ended() {
				right.Result.Status = api.Starved
				starved++
			}
			r, e := play.Run(s, l, windows)
			want(t, "Run", r, right)
			want(t, "its error", e, api.OK)
			trace, e := play.Trace(s, l, windows)
			want(t, "Trace's error", e, api.OK)
			want(t, "as many", len(trace), g.Rounds()+1)
			for round, state := range trace {
				x, _ := g.State(round)
				want(t, "Trace", state, x)
			}
			want(t, "Same", play.Same(r, right), true)
			for i, change := range []func(r *api.Report){func(r *api.Report) { r.Sent++ }, func(r *api.Report) { r.Windows++ }, func(r *api.Report) { r.Result.Status++ }, func(r *api.Report) { r.Result.Rounds++ }, func(r *api.Report) { r.Result.State = d.someState(0, s.Plan.N+1) }} {
				other := r
				change(&other)
				if play.Same(r, other) || play.Same(other, r) {
					t.Errorf("Same of the case %d", i)
				}
			}
		}
	}
	want(t, "some are starved, some are not", starved > 50 && starved < 350, true)
	r, _ := play.Run(tiny(), nil, 0)
	_, trace := runOf(tiny().Plan, tiny().Graph, 9)
	want(t, "no moves, no windows", r, api.Report{Result: api.Result{Status: api.Starved, State: trace[0]}})
}

func TestP25_3(t *testing.T) {
	d := &dice{state: 3}
	for i := 0; i < 60; i++ {
		for _, kind := range allKinds {
			s := d.setup(kind)
			right, _ := model.Run(s.Plan, s.Graph, s.Limit)
			trace, _ := model.Trace(s.Plan, s.Graph, s.Limit)
			for n := 0; n < 3; n++ {
				s.R, s.C, s.Room = d.between(1, 4), d.between(1, 4), d.between(1, 3)
				r, e := play.Run(s, d.script(s.R*s.C, 300), []int{5, 30, 5000}[n])
				want(t, "Run's error", e, api.OK)
				if r.Result.Status == api.Starved {
					want(t, "where the model stood", r.Result.State, trace[r.Result.Rounds])
				} else {
					want(t, "whatever the script", r.Result, right)
				}
			}
		}
	}
}

func TestP25_4(t *testing.T) {
	d := &dice{state: 4}
	for i := 0; i < 80; i++ {
		for _, kind := range allKinds {
			s := d.setup(kind)
			right, _ := model.Run(s.Plan, s.Graph, s.Limit)
			r, _ := play.Run(s, nil, play.Bound(s, right.Rounds))
			want(t, "with Bound windows", r.Result, right)
		}
	}
	s := tiny()
	s.Graph, s.Plan.N, s.R, s.C, s.Room, s.Limit = circle(40), 40, 8, 8, 1, 100
	right, _ := model.Run(s.Plan, s.Graph, s.Limit)
	r, _ := play.Run(s, nil, play.Bound(s, right.Rounds))
	want(t, "with Bound windows", r.Result, right)
}

func TestP25_5(t *testing.T) {
	d := &dice{state: 5}
	for i := 0; i < 30; i++ {
		for _, kind := range allKinds {
			s := d.setup(kind)
			l := d.script(s.R*s.C, 600)
			rounds, status := 0, api.Starved
			for n := 0; n <= len(l); n += 1 + len(l)/8 {
				r, _ := play.Run(s, l[:n], 0)
				want(t, "no fewer supersteps", r.Result.Rounds >= rounds, true)
				if status != api.Starved {
					want(t, "what has ended stays so", r.Result.Status, status)
				}
				rounds, status = r.Result.Rounds, r.Result.Status
			}
		}
	}
}

func TestPlayWhatever(t *testing.T) {
	whatever(t, 300, face{"play.Right", play.Right, false}, face{"play.Check", play.Check, false}, face{"play.Bound", play.Bound, false}, face{"play.Same", play.Same, false},
		face{"play.Run", func(s api.Setup, l []api.Move, windows int) (api.Report, api.Errno) {
			s.Limit = s.Limit % 20
			return play.Run(s, l, windows%100)
		}, false},
		face{"play.Trace", func(s api.Setup, l []api.Move, windows int) ([]api.State, api.Errno) {
			s.Limit = s.Limit % 20
			return play.Trace(s, l, windows%100)
		}, false})
}
