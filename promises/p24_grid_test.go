package promises

import (
	"math"
	"testing"

	"fretwork/api"
	"fretwork/grid"
	"fretwork/part"
	"fretwork/worker"
)

func newGrid(t *testing.T, s api.Setup) *grid.Grid {
	g, e := grid.New(s)
	if e != api.OK {
		t.Fatalf("New: %d", e)
	}
	return g
}

// tiny is a setup of one worker.
func tiny() api.Setup {
	return api.Setup{Plan: api.Plan{Kind: api.Labels, N: 3}, Graph: path(3), R: 1, C: 1, Room: 2, Limit: 9}
}

func TestP24_1(t *testing.T) {
	for e, l := range badSetups() {
		for _, s := range l {
			g, got := grid.New(s)
			want(t, "New's error", got, e)
			want(t, "a grid, or none", g != nil, e == api.OK)
		}
	}
	s := tiny()
	s.R = 2
	g := newGrid(t, s)
	want(t, "a Vote is sent", g.Pick(1), true)
	want(t, "a Vote is sent", g.Len(1, 0), 1)
	want(t, "no more is to be sent", g.Pick(1), false)
	for _, k := range []int{-1, 2, math.MinInt, math.MaxInt} {
		want(t, "no worker", g.Pick(k), false)
		want(t, "no box", g.Deliver(1, k, 0) || g.Deliver(k, 0, 0), false)
		for _, e := range []api.Errno{g.Double(1, k, 0), g.Double(k, 1, 0), g.Move(1, k, 0), g.Move(k, 1, 0)} {
			want(t, "no box", e, api.ErrNone)
		}
	}
	for _, k := range []int{-1, 1, math.MaxInt} {
		want(t, "no frame", g.Deliver(1, 0, k), false)
		want(t, "no frame", g.Double(1, 0, k), api.ErrRange)
		want(t, "no frame", g.Move(1, 0, k), api.ErrRange)
		want(t, "an empty box", g.Double(0, 0, k), api.ErrRange)
		want(t, "an empty box", g.Move(0, 1, k), api.ErrRange)
	}
	want(t, "Double", g.Double(1, 0, 0), api.OK)
	want(t, "Double", g.Len(1, 0), 2)
	want(t, "a full box", g.Double(1, 0, 0), api.ErrFull)
	want(t, "Move", g.Move(1, 0, 0), api.OK)
	want(t, "Deliver", g.Deliver(1, 0, 1), true)
	want(t, "Deliver of what was handed over", g.Deliver(1, 0, 0), false)
	want(t, "it is not in it any more", g.Len(1, 0), 0)
	want(t, "doubled ones are not sent", g.Sent(), 1)
	want(t, "the other Vote", g.Pick(0) && g.Deliver(0, 0, 0), true)
	want(t, "two Orders", g.Pick(0) && g.Pick(0), true)
	want(t, "each has its box", [2]int{g.Len(0, 0), g.Len(0, 1)}, [2]int{1, 1})
}

func TestP24_1_room(t *testing.T) {
	g := newGrid(t, tiny())
	want(t, "a Vote, twice", g.Pick(0) && g.Double(0, 0, 0) == api.OK, true)
	want(t, "it is handed over, and the other one doubled", g.Deliver(0, 0, 0) && g.Double(0, 0, 0) == api.OK, true)
	want(t, "no room", g.Pick(0), false)
	want(t, "no room", [2]int{g.Len(0, 0), g.Sent()}, [2]int{2, 1})
	want(t, "what was handed over", g.Deliver(0, 0, 1), false)
	want(t, "what is full loses nothing", g.Pick(0) && g.Deliver(0, 0, 1), true)
	want(t, "an Order, and a Share", g.Pick(0) && g.Sent() == 3, true)
}

func TestP24_2(t *testing.T) {
	d := &dice{state: 2}
	for i := 0; i < 60; i++ {
		s := d.setup(allKinds[d.below(5)])
		a, b := newGrid(t, s), newGrid(t, s)
		for n := 0; n < 60; n++ {
			did := false
			for k := range b.Workers() {
				did = b.Pick(k) || did
			}
			for from := range b.Workers() {
				for to := range b.Workers() {
					if b.Len(from, to) > 0 {
						b.Deliver(from, to, b.Oldest(from, to))
						did = true
					}
				}
			}
			want(t, "whether a window did anything", a.Window(), did)
			want(t, "a window", stand(a), stand(b))
			if d.coin() {
				from, to := d.below(a.Workers()), d.below(a.Workers())
				want(t, "Double", a.Double(from, to, 0), b.Double(from, to, 0))
				want(t, "Pick", a.Pick(from), b.Pick(from))
				want(t, "Move", a.Move(from, to, 0), b.Move(from, to, 0))
			}
		}
	}
	g := newGrid(t, tiny())
	for g.Window() {
	}
	want(t, "it ends at last", g.Ended(), true)
	want(t, "a window that does nothing", g.Window(), false)
}

// standing is all that is to be seen of a grid.
type standing struct {
	Lens, Oldest, Stored  []int
	Sent, Workers, Rounds int
	Ended                 bool
	Result                api.Result
}

func stand(g *grid.Grid) standing {
	s := standing{Sent: g.Sent(), Workers: g.Workers(), Rounds: g.Rounds(), Ended: g.Ended(), Result: g.Result()}
	for from := range g.Workers() {
		s.Stored = append(s.Stored, g.Stored(from))
		for to := range g.Workers() {
			s.Lens = append(s.Lens, g.Len(from, to))
			s.Oldest = append(s.Oldest, g.Oldest(from, to))
		}
	}
	return s
}

func TestP24_3(t *testing.T) {
	var none *grid.Grid
	r := none.Result()
	want(t, "Result of a nil grid", r, api.Result{})
	state, ok := none.State(0)
	want(t, "State of a nil grid", state, api.State{})
	if ok || none.Pick(0) || none.Deliver(0, 0, 0) || none.Double(0, 0, 0) != api.ErrNone || none.Move(0, 0, 0) != api.ErrNone || none.Window() || none.Workers() != 0 || none.Len(0, 0) != 0 || none.Sent() != 0 || none.Stored(0) != 0 || none.Ended() || none.Rounds() != 0 {
		t.Error("a nil grid has nothing")
	}
	s := tiny()
	s.R, s.C = 2, 3
	g := newGrid(t, s)
	want(t, "Workers", g.Workers(), 6)
	for _, k := range []int{-1, 6, math.MaxInt} {
		want(t, "Len of none", g.Len(0, k)+g.Len(k, 0), 0)
		want(t, "Oldest of none", [2]int{g.Oldest(0, k), g.Oldest(k, 0)}, [2]int{-1, -1})
		want(t, "Stored of none", g.Stored(k), 0)
	}
	want(t, "Oldest of an empty box", g.Oldest(0, 1), -1)
	right, trace := runOf(s.Plan, s.Graph, s.Limit)
	want(t, "Result at first", g.Result(), api.Result{State: trace[0]})
	for n := 0; !g.Ended(); n++ {
		if n > 1000 {
			t.Fatal("it does not end")
		}
		want(t, "Rounds", g.Rounds() < len(trace), true)
		for _, round := range []int{math.MinInt, -1, 0, 1, 2, 3, 4, 5, math.MaxInt} {
			state, ok := g.State(round)
			in := round >= 0 && round <= g.Rounds()
			want(t, "whether it is completed", ok, in)
			if in {
				want(t, "State", state, trace[round])
				scribbled, _ := g.State(round)
				for i := range scribbled.A {
					scribbled.A[i], scribbled.B[i] = 99, 99
				}
			} else {
				want(t, "nothing beside a false", state, api.State{})
			}
		}
		want(t, "Result on the way", g.Result(), api.Result{Rounds: g.Rounds(), State: trace[g.Rounds()]})
		g.Window()
	}
	want(t, "Result", g.Result(), right)
}

func TestP24_3_own(t *testing.T) {
	s := tiny()
	g := newGrid(t, s)
	want(t, "nothing is sent yet", g.Sent(), 0)
	g.Pick(0)
	g.Deliver(0, 0, 0)
	g.Pick(0)
	g.Deliver(0, 0, 0)
	g.Pick(0)
	want(t, "a Vote, an Order, a Share", g.Sent(), 3)
	want(t, "nothing is stored", g.Stored(0), 0)
	for i := range s.Graph.Edges {
		s.Graph.Edges[i] = api.Edge{}
	}
	for n := 0; n < 100; n++ {
		g.Window()
	}
	want(t, "a setup is not kept", g.Result().State.A, []int64{0, 0, 0})
	s = tiny()
	s.R = 2
	g = newGrid(t, s)
	for n := 0; n < 100 && g.Stored(0) == 0; n++ {
		g.Pick(n % 2)
		g.Deliver(n%2, 0, 0)
		if g.Len(0, 1) > 0 && n > 20 {
			g.Deliver(0, 1, 0)
		}
	}
	want(t, "what came is stored", g.Stored(0) > 0, true)
}

// act does one thing to a grid, whichever.
func (d *dice) act(g *grid.Grid) {
	from, to, k := d.below(g.Workers()), d.below(g.Workers()), d.below(3)
	if d.coin() {
		for n := 0; n < 40 && g.Len(from, to) == 0; n++ {
			from, to = d.below(g.Workers()), d.below(g.Workers())
		}
	}
	switch d.below(9) {
	case 0, 1, 2:
		g.Pick(from)
	case 3, 4:
		g.Deliver(from, to, k)
	case 5:
		g.Deliver(from, to, g.Oldest(from, to))
	case 6:
		g.Double(from, to, k)
	case 7:
		g.Move(from, to, k)
	case 8:
		if d.below(10) == 0 {
			g.Window()
		}
	}
}

// bound is in how many windows a run of so many supersteps ends.
func bound(s api.Setup, rounds int) int {
	return 4 * (s.R + s.C + 4) * (rounds + 2)
}

func TestP24_4(t *testing.T) {
	d := &dice{state: 4}
	ended := map[api.Status]int{}
	for i := 0; i < 60; i++ {
		for _, kind := range allKinds {
			s := d.setup(kind)
			right, trace := runOf(s.Plan, s.Graph, s.Limit)
			g := newGrid(t, s)
			rounds := 0
			for n := 0; n < 4000 && !g.Ended(); n++ {
				d.act(g)
				want(t, "no superstep is lost", g.Rounds() >= rounds, true)
				if g.Rounds() > rounds {
					rounds = g.Rounds()
					state, ok := g.State(rounds)
					want(t, "what the model has", state, trace[rounds])
					want(t, "what the model has", ok, true)
				}
			}
			for round := 0; round <= g.Rounds(); round++ {
				state, _ := g.State(round)
				want(t, "what the model had", state, trace[round])
			}
			if g.Ended() {
				ended[right.Status]++
				want(t, "Result", g.Result(), right)
				for n := 0; n < 50; n++ {
					d.act(g)
				}
				want(t, "it stays", g.Result(), right)
			} else {
				want(t, "Status on the way", g.Result().Status, api.Going)
			}
		}
	}
	want(t, "enough of them end", ended[api.Done] > 20 && ended[api.Limit] > 20 && ended[api.Overflow] > 2, true)
}

func TestP24_5(t *testing.T) {
	d := &dice{state: 5}
	for i := 0; i < 60; i++ {
		for _, kind := range allKinds {
			s := d.setup(kind)
			right, _ := runOf(s.Plan, s.Graph, s.Limit)
			g := newGrid(t, s)
			windows := 0
			for ; windows < bound(s, right.Rounds) && !g.Ended(); windows++ {
				g.Window()
			}
			want(t, "it ends by windows alone", g.Ended(), true)
			want(t, "Result", g.Result(), right)
			g = newGrid(t, s)
			for n := d.below(300); n > 0; n-- {
				d.act(g)
			}
			for n := 0; n < 100000 && !g.Ended(); n++ {
				g.Window()
			}
			want(t, "it ends, whatever was done ahead", g.Ended(), true)
			want(t, "Result", g.Result(), right)
		}
	}
	s := tiny()
	s.R, s.C, s.Room = 8, 8, 1
	g := newGrid(t, s)
	for n := 0; n < bound(s, 3); n++ {
		g.Window()
	}
	want(t, "the greatest grid ends", g.Ended(), true)
	one := newGrid(t, tiny())
	want(t, "a grid of 1 and 1", one.Pick(0) && one.Deliver(0, 0, 0), true)
}

func TestP24_6(t *testing.T) {
	d := &dice{state: 6}
	for i := 0; i < 40; i++ {
		for _, kind := range allKinds {
			s := d.setup(kind)
			if d.coin() {
				s.Graph = steep(s.Plan.N)
			}
			g := newGrid(t, s)
			for n := 0; n < 1500; n++ {
				d.act(g)
				if n%7 > 0 {
					continue
				}
				for from := range g.Workers() {
					want(t, "no worker stores more", g.Stored(from) <= part.Most(s.Plan.N, s.R)+part.Most(s.Plan.N, s.C), true)
					for to := range g.Workers() {
						want(t, "no box has more", g.Len(from, to) <= s.Room, true)
					}
				}
				want(t, "no more are sent", g.Sent() <= 5*s.R*s.C*(g.Rounds()+3), true)
			}
		}
	}
	want(t, "Check", worker.Check(tiny()), api.OK)
}

func TestGridWhatever(t *testing.T) {
	whatever(t, 300, face{"grid.New and more", func(s api.Setup, from, to, k int) (api.Result, int, api.Errno) {
		s.R, s.C, s.Limit = s.R%4, s.C%4, s.Limit%10
		g, e := grid.New(s)
		if e != api.OK {
			return api.Result{}, 0, e
		}
		for range 20 {
			g.Window()
			g.Double(from%4, to%4, k%4)
			g.Pick(from)
			g.Move(from, to, k)
			g.Deliver(from, to, k)
		}
		return g.Result(), g.Sent() + g.Len(from, to) + g.Oldest(from, to) + g.Stored(k), api.OK
	}, false}, face{"grid.Grid", func(from, to, k int) bool {
		g := &grid.Grid{}
		g.Double(from, to, k)
		g.Move(from, to, k)
		return g.Pick(k) || g.Deliver(from, to, k) || g.Window() || g.Ended() || g.Rounds()+g.Sent()+g.Workers()+g.Stored(k)+g.Len(from, to) > 0
	}, false})
}
