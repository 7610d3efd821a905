package promises

import (
	"math"
	"reflect"
	"slices"
	"testing"

	"fretwork/api"
	"fretwork/model"
	"fretwork/part"
	"fretwork/prog"
	"fretwork/spvec"
	"fretwork/wide"
	"fretwork/worker"
)

// setup is a setup that can be, of a program.
func (d *dice) setup(k api.ProgKind) api.Setup {
	p, g := d.task(k)
	s := api.Setup{Plan: p, Graph: g, R: d.between(1, 3), C: d.between(1, 3), Room: d.between(1, 4), Limit: []int{0, 1, 2, 30, 30, 30}[d.below(6)]}
	if d.below(10) == 0 {
		s.R, s.C = d.between(1, 8), d.between(1, 8)
	}
	for i := d.below(4); i > 0; i-- {
		s.Choices = append(s.Choices, api.Choice{Way: api.Way(d.below(4)), Form: api.Form(d.below(4))})
	}
	return s
}

func init() {
	maker(func(d *dice) api.Setup { return d.setup(allKinds[d.below(5)]) })
}

// badSetups can't be, each by one thing.
func badSetups() map[api.Errno][]api.Setup {
	with := func(change func(s *api.Setup)) api.Setup {
		s := api.Setup{Plan: api.Plan{Kind: api.Labels, N: 3}, Graph: path(3), R: 1, C: 1, Room: 1}
		change(&s)
		return s
	}
	long := make([]api.Choice, api.MaxSupers+1)
	return map[api.Errno][]api.Setup{
		api.OK:      {with(func(s *api.Setup) {}), with(func(s *api.Setup) { s.R, s.C, s.Room, s.Limit, s.Choices = 8, 8, 64, 8192, long[1:] }), with(func(s *api.Setup) { s.Choices = []api.Choice{{Way: -5, Form: 99}} })},
		api.ErrKind: {{}, with(func(s *api.Setup) { s.Plan.Kind, s.R = 9, 0 })},
		api.ErrSize: {with(func(s *api.Setup) { s.Graph.N, s.Limit = 4, -1 })},
		api.ErrRange: {
			with(func(s *api.Setup) { s.Plan.N, s.Graph.N = -1, -1 }), with(func(s *api.Setup) { s.Limit, s.Choices = -1, long }), with(func(s *api.Setup) { s.Limit = 8193 }), with(func(s *api.Setup) { s.R = 0 }), with(func(s *api.Setup) { s.R, s.Choices = 9, long }), with(func(s *api.Setup) { s.C = 0 }),
			with(func(s *api.Setup) { s.C = 9 }), with(func(s *api.Setup) { s.Room, s.Choices = 0, long }), with(func(s *api.Setup) { s.Room = 65 }), with(func(s *api.Setup) { s.R = math.MinInt }), with(func(s *api.Setup) { s.Room = math.MaxInt }),
		},
		api.ErrLong:  {with(func(s *api.Setup) { s.Choices = long }), with(func(s *api.Setup) { s.Plan.Draws, s.Limit = make([]int64, 65537), -1 })},
		api.ErrValue: {with(func(s *api.Setup) { s.Graph.Edges[0].W, s.Limit = -1, -1 })},
	}
}

func TestP23_1(t *testing.T) {
	for e, l := range badSetups() {
		for i, s := range l {
			e := e
			if got := worker.Check(s); got != e {
				t.Errorf("Check of the setup %d of %d: %d", i, e, got)
			}
			w, got := worker.New(s, 0, 0)
			want(t, "New's error", got, e)
			want(t, "a worker, or none", w != nil, e == api.OK)
			if e == api.OK {
				e = api.ErrRange
			}
			w, got = worker.New(s, -1, 99)
			want(t, "New's error, ahead of whether there is such a worker", got, e)
			want(t, "nothing beside it", w == nil, true)
		}
	}
	s := api.Setup{Plan: api.Plan{Kind: api.Labels, N: 3}, Graph: path(3), R: 2, C: 3, Room: 1}
	for i := -1; i < 4; i++ {
		for j := -1; j < 4; j++ {
			w, e := worker.New(s, i, j)
			in := i >= 0 && i < 2 && j >= 0 && j < 3
			want(t, "whether there is such a worker", e == api.OK, in)
			if !in {
				want(t, "New's error", e, api.ErrRange)
				want(t, "nothing beside it", w == nil, true)
				continue
			}
			want(t, "Number", w.Number(), 3*i+j)
			state, left := api.State{}, 0
			if j == 0 {
				state, left = prog.Begin(s.Plan, part.Low(3, 2, i), part.Low(3, 2, i+1)), 1
			}
			want(t, "State at first", w.State(), state)
			want(t, "Left at first", w.Left(), left)
			want(t, "all else at first", w.Round() == 0 && w.Status() == api.Going && w.Stored() == 0, true)
		}
	}
}

// mirror is what a worker waits for, by other means.
type mirror struct {
	i, j                               int
	share, spread, step, vote          int
	voted, decided                     bool
	status                             api.Status
	sharesFrom, gathersFrom, votesFrom map[int]bool
}

// theatre is a grid that the test runs, and what should come of it.
type theatre struct {
	t      *testing.T
	s      api.Setup
	trace  []api.State
	result api.Result
	m      api.Rows
	w      []*worker.Worker
	mirror []*mirror
	ways   map[[2]int][]api.Frame
	seen   map[string]int
}

func newTheatre(t *testing.T, s api.Setup) *theatre {
	p := &theatre{t: t, s: s, ways: map[[2]int][]api.Frame{}, seen: map[string]int{}}
	p.result, p.trace = runOf(s.Plan, s.Graph, s.Limit)
	p.m, _ = prog.Matrix(s.Plan, s.Graph)
	for i := range s.R {
		for j := range s.C {
			w, e := worker.New(s, i, j)
			if e != api.OK {
				t.Fatalf("New: %d", e)
			}
			p.w = append(p.w, w)
			p.mirror = append(p.mirror, &mirror{i: i, j: j, share: 1, spread: 1, voted: j == 0, sharesFrom: map[int]bool{}, gathersFrom: map[int]bool{}, votesFrom: map[int]bool{}})
		}
	}
	return p
}

// waits tells whether a worker should wait for a frame.
func (p *theatre) waits(k int, f api.Frame) bool {
	x, s := p.mirror[k], p.s
	n := s.Plan.N
	if f.To != k || f.From < 0 || f.From >= s.R*s.C {
		return false
	}
	i, j := f.From/s.C, f.From%s.C
	switch f.Kind {
	case api.Share:
		at := sliceAt(n, s.R, s.C, i, x.j)
		return x.i == 0 && j == 0 && f.Round == x.share && !x.sharesFrom[f.From] && spvec.Right(f.Vec) && f.Vec.N == at[1]-at[0]
	case api.Spread:
		at := cutAt(n, s.C, x.j)
		return i == 0 && j == x.j && f.Round == x.spread && spvec.Right(f.Vec) && f.Vec.N == at[1]-at[0]
	case api.Gather:
		at := cutAt(n, s.R, x.i)
		for a, sum := range f.Sums {
			if sum.At < 0 || sum.At >= at[1]-at[0] || a > 0 && sum.At <= f.Sums[a-1].At {
				return false
			}
		}
		return x.j == 0 && i == x.i && x.status == api.Going && x.step > 0 && f.Round == x.step && !x.voted && !x.gathersFrom[f.From]
	case api.Vote:
		return k == 0 && j == 0 && !x.decided && f.Round == x.vote && !x.votesFrom[f.From]
	case api.Order:
		return x.j == 0 && f.From == 0 && x.status == api.Going && x.voted && f.Round == x.step && f.N >= 0 && f.N <= 3
	}
	return false
}

// told is how a run should stand behind a superstep.
func (p *theatre) told(round int) api.Status {
	if round >= p.result.Rounds && p.result.Status != api.Overflow || round > p.result.Rounds {
		return p.result.Status
	}
	return api.Going
}

// partOf is the part of a state from one vertex on, up to another one.
func partOf(s api.State, at [2]int) api.State {
	return stateOf(at[0], ones(s)[at[0]:at[1]])
}

// right is the frame that a worker should send, by the kind, the round, and to whom.
func (p *theatre) right(f api.Frame) api.Frame {
	s, n := p.s, p.s.Plan.N
	i, j := f.From/s.C, f.From%s.C
	out := api.Frame{Kind: f.Kind, From: f.From, To: f.To, Round: f.Round}
	rows := cutAt(n, s.R, i)
	if f.Kind == api.Vote || f.Kind == api.Order {
		if f.Kind == api.Order {
			out.N = int64(p.told(f.Round))
		} else if f.Round < len(p.trace) {
			out.N = int64(liveOf(s.Plan, partOf(p.trace[f.Round], rows), f.Round))
		} else {
			out.Over = f.Over
		}
		return out
	}
	told := outOf(s.Plan, p.trace[f.Round-1], f.Round)
	switch f.Kind {
	case api.Share:
		at := sliceAt(n, s.R, s.C, i, f.To%s.C)
		out.Vec = spvec.Part(told, at[0], at[1])
	case api.Spread:
		at := cutAt(n, s.C, j)
		out.Vec = spvec.Part(told, at[0], at[1])
	case api.Gather:
		cols := cutAt(n, s.C, j)
		block := rowsCut(p.m, rows, cols)
		out.Sums = sums(ringOf(s.Plan.Kind, f.Round), block, spvec.Part(told, cols[0], cols[1]), nil, true)
	}
	return out
}

func rowsCut(m api.Rows, rows, cols [2]int) api.Rows {
	var l []api.Triple
	for i := rows[0]; i < rows[1]; i++ {
		for at := m.Start[i]; at < m.Start[i+1]; at++ {
			if k := m.Col[at]; k >= cols[0] && k < cols[1] {
				l = append(l, api.Triple{Row: i - rows[0], Col: k - cols[0], Val: m.Val[at]})
			}
		}
	}
	return rowsOf(rows[1]-rows[0], cols[1]-cols[0], l)
}

// heard notes what a worker heard, and tells which frames it should send for it: their kind, round, and to whom.
func (p *theatre) heard(k int, f api.Frame) [][3]int {
	x, s := p.mirror[k], p.s
	var out [][3]int
	switch f.Kind {
	case api.Share:
		x.sharesFrom[f.From] = true
		if len(x.sharesFrom) == s.R {
			for i := range s.R {
				out = append(out, [3]int{int(api.Spread), x.share, i*s.C + x.j})
			}
			x.share++
			x.sharesFrom = map[int]bool{}
		}
	case api.Spread:
		out = append(out, [3]int{int(api.Gather), x.spread, x.i * s.C})
		x.spread++
	case api.Gather:
		x.gathersFrom[f.From] = true
		if len(x.gathersFrom) == s.C {
			out = append(out, [3]int{int(api.Vote), x.step, 0})
			x.voted = true
			x.gathersFrom = map[int]bool{}
		}
	case api.Vote:
		x.votesFrom[f.From] = true
		if len(x.votesFrom) == s.R {
			for i := range s.R {
				out = append(out, [3]int{int(api.Order), x.vote, i * s.C})
			}
			x.decided = p.told(x.vote) != api.Going
			x.vote++
			x.votesFrom = map[int]bool{}
		}
	case api.Order:
		if x.status = api.Status(f.N); x.status == api.Going {
			x.step++
			x.voted = false
			for j := range s.C {
				out = append(out, [3]int{int(api.Share), x.step, j})
			}
		}
	}
	return out
}

// look is all that is to be seen of a worker.
func look(w *worker.Worker) string {
	f, ok := w.Next()
	return text(reflect.ValueOf(struct {
		F       api.Frame
		Ok      bool
		L, R, S int
		St      api.Status
		State   api.State
	}{f, ok, w.Left(), w.Round(), w.Stored(), w.Status(), w.State()}), false)
}

// send lets a worker send, and holds the frame against what it should be.
func (p *theatre) send(k int) bool {
	f, ok := p.w[k].Next()
	if !ok {
		want(p.t, "nothing beside a false", f, api.Frame{})
		return false
	}
	again, _ := p.w[k].Next()
	want(p.t, "Next again", again, f)
	scribble(reflect.ValueOf(again.Vec.Items))
	scribble(reflect.ValueOf(again.Sums))
	again, _ = p.w[k].Next()
	want(p.t, "what is told is the caller's", again, f)
	want(p.t, "what is sent", f, p.right(f))
	left := p.w[k].Left()
	p.w[k].Gone()
	want(p.t, "Left behind Gone", p.w[k].Left(), left-1)
	p.ways[[2]int{k, f.To}] = append(p.ways[[2]int{k, f.To}], f)
	p.seen[text(reflect.ValueOf([]int{int(f.Kind), f.Round, f.From, f.To}), false)]++
	return true
}

// hand hands the next frame of a way over.
func (p *theatre) hand(way [2]int) {
	f := p.ways[way][0]
	p.ways[way] = p.ways[way][1:]
	k := way[1]
	w := p.w[k]
	if !p.waits(k, f) {
		p.t.Fatalf("the worker %d should wait for %v", k, f)
	}
	left := w.Left()
	kept := copied(reflect.ValueOf(f)).Interface().(api.Frame)
	want(p.t, "Hear", w.Hear(f), true)
	want(p.t, "a frame that is heard", f, kept)
	scribble(reflect.ValueOf(f.Vec.Items))
	scribble(reflect.ValueOf(f.Sums))
	sent := p.heard(k, f)
	want(p.t, "how many it sends for it", w.Left()-left, len(sent))
	p.check(k)
	want(p.t, "Hear again", w.Hear(kept), false)
}

// check holds what a worker tells against what it should be.
func (p *theatre) check(k int) {
	x, n := p.mirror[k], p.s.Plan.N
	w := p.w[k]
	round, status, state := 0, api.Going, api.State{}
	if x.j == 0 {
		round, status = x.step, x.status
		if x.status == api.Going && x.step > 0 || x.status == api.Overflow {
			round = max(x.step-1, 0)
		}
		state = partOf(p.trace[round], cutAt(n, p.s.R, x.i))
	}
	want(p.t, "Round", w.Round(), round)
	want(p.t, "Status", w.Status(), status)
	want(p.t, "State", w.State(), state)
	want(p.t, "Stored is bounded", w.Stored() <= part.Most(n, p.s.R)+part.Most(n, p.s.C), true)
	if len(x.sharesFrom)+len(x.gathersFrom) == 0 {
		want(p.t, "Stored of nothing", w.Stored(), 0)
	}
}

// disturb lets a worker hear what it does not wait for.
func (p *theatre) disturb(d *dice) {
	k := d.below(len(p.w))
	f := d.frame()
	if len(p.ways) > 0 && d.below(3) > 0 {
		if ways := p.busy(); len(ways) > 0 {
			f = copied(reflect.ValueOf(p.ways[ways[d.below(len(ways))]][0])).Interface().(api.Frame)
			k = f.To
		}
		for n := d.between(1, 2); n > 0; n-- {
			switch d.below(8) {
			case 0:
				f.Kind = api.FrameKind(d.below(8))
			case 1:
				f.From = d.below(len(p.w)+2) - 1
			case 2:
				f.Round += d.below(3) - 1
			case 3:
				f.Vec.N += d.below(3) - 1
			case 4:
				f.Sums = append(f.Sums, api.Sum{At: d.below(9) - 2})
			case 5:
				f.N = d.odd()
			case 6:
				f.To = d.below(len(p.w))
			case 7:
				f.Vec.Items = append(f.Vec.Items, api.Item{At: d.below(4)})
			}
		}
	}
	if p.waits(k, f) {
		return
	}
	ahead := look(p.w[k])
	if p.w[k].Hear(f) {
		p.t.Fatalf("the worker %d should not wait for %v", k, f)
	}
	want(p.t, "what it does not wait for changes nothing", look(p.w[k]), ahead)
}

// busy is the ways on which there are frames, in order.
func (p *theatre) busy() [][2]int {
	var ways [][2]int
	for way, l := range p.ways {
		if len(l) > 0 {
			ways = append(ways, way)
		}
	}
	slices.SortFunc(ways, func(a, b [2]int) int { return slices.Compare(a[:], b[:]) })
	return ways
}

// run goes on until all is done, in an order that is thrown.
func (p *theatre) run(d *dice, troubled bool) {
	for steps := 0; ; steps++ {
		if steps > 200000 {
			p.t.Fatal("it does not end")
		}
		var acts []func()
		for k, w := range p.w {
			if w.Left() > 0 {
				acts = append(acts, func() { p.send(k) })
			}
		}
		for _, way := range p.busy() {
			acts = append(acts, func() { p.hand(way) })
		}
		if len(acts) == 0 {
			return
		}
		acts[d.below(len(acts))]()
		if troubled {
			p.disturb(d)
		}
		if p.t.Failed() {
			p.t.FailNow()
		}
	}
}

// ended holds the end of a run against the model's.
func (p *theatre) ended() {
	var all []one
	for k, w := range p.w {
		want(p.t, "nothing is left", w.Left() == 0 && w.Stored() == 0, true)
		if k%p.s.C == 0 {
			want(p.t, "Status at the end", w.Status(), p.result.Status)
			want(p.t, "Round at the end", w.Round(), p.result.Rounds)
			all = append(all, ones(w.State())...)
		}
	}
	want(p.t, "State at the end", stateOf(0, all), p.result.State)
	for name, n := range p.seen {
		want(p.t, "each frame once: "+name, n, 1)
	}
}

func TestP23_2(t *testing.T) {
	d := &dice{}
	seen := map[api.Status]int{}
	for i := 0; i < 60; i++ {
		for _, k := range allKinds {
			p := newTheatre(t, d.setup(k))
			p.run(d, false)
			p.ended()
			seen[p.result.Status]++
		}
	}
	want(t, "all statuses", seen[api.Done] > 10 && seen[api.Limit] > 10 && seen[api.Overflow] > 2, true)
	for _, k := range []api.ProgKind{api.Levels, api.Indep} {
		s := d.setup(k)
		s.Graph = api.Graph{N: 300}
		for n := 0; n < 500; n++ {
			s.Graph.Edges = append(s.Graph.Edges, d.edge(300, 3))
		}
		s.Plan.N, s.R, s.C, s.Limit = 300, 2, 2, 30
		p := newTheatre(t, s)
		p.run(d, false)
		p.ended()
	}
	w, _ := worker.New(api.Setup{Plan: api.Plan{Kind: api.Labels, N: 2}, Graph: path(2), R: 1, C: 1, Room: 1}, 0, 0)
	f, ok := w.Next()
	want(t, "the first frame", f, api.Frame{Kind: api.Vote, N: 2})
	want(t, "the first frame", ok, true)
}

// queue is all that a worker has to send.
func queue(w *worker.Worker) []api.Frame {
	var l []api.Frame
	for {
		f, ok := w.Next()
		if !ok {
			return l
		}
		l = append(l, f)
		w.Gone()
	}
}

func TestP23_2_orders(t *testing.T) {
	s := api.Setup{Plan: api.Plan{Kind: api.Walks, N: 4, Length: 9}, Graph: circle(4), R: 2, C: 2, Room: 1, Limit: 1}
	for _, c := range []struct {
		votes []api.Frame
		n     api.Status
	}{
		{[]api.Frame{{From: 0, N: 1}, {From: 2}}, api.Going}, {[]api.Frame{{From: 2}, {From: 0}}, api.Done}, {[]api.Frame{{From: 2, Over: true}, {From: 0, N: 3}}, api.Overflow}, {[]api.Frame{{From: 2, N: -5}, {From: 0}}, api.Going},
	} {
		w, _ := worker.New(s, 0, 0)
		queue(w)
		for _, f := range c.votes {
			f.Kind = api.Vote
			want(t, "Hear", w.Hear(f), true)
		}
		want(t, "Orders", queue(w), []api.Frame{{Kind: api.Order, To: 0, N: int64(c.n)}, {Kind: api.Order, To: 2, N: int64(c.n)}})
		for _, f := range c.votes {
			f.Kind, f.Round = api.Vote, 1
			want(t, "a vote of the next round", w.Hear(f), c.n == api.Going)
		}
		if c.n == api.Going {
			l := queue(w)
			want(t, "at the limit", l, []api.Frame{{Kind: api.Order, To: 0, Round: 1, N: int64(api.Limit)}, {Kind: api.Order, To: 2, Round: 1, N: int64(api.Limit)}})
			want(t, "none once it does not go on", w.Hear(api.Frame{Kind: api.Vote, Round: 2}), false)
		}
	}
	for status := api.Going; status <= api.Overflow; status++ {
		w, _ := worker.New(s, 1, 0)
		begun := w.State()
		queue(w)
		want(t, "an Order", w.Hear(api.Frame{Kind: api.Order, To: 2, N: int64(status)}), true)
		want(t, "it stands as it says", w.Status(), status)
		want(t, "of the round 0 the state stays", w.State(), begun)
		want(t, "Round", w.Round(), 0)
		want(t, "whether it goes on", len(queue(w)), map[bool]int{true: 2}[status == api.Going])
		want(t, "one more Order", w.Hear(api.Frame{Kind: api.Order, To: 2, N: 0}), false)
		want(t, "one more Order", w.Hear(api.Frame{Kind: api.Order, To: 2, N: 0, Round: 1}), false)
	}
	for _, n := range []int64{-1, 4, math.MaxInt64, math.MinInt64} {
		w, _ := worker.New(s, 1, 0)
		want(t, "an Order that is none", w.Hear(api.Frame{Kind: api.Order, To: 2, N: n}), false)
	}
}

func TestP23_2_aside(t *testing.T) {
	s := api.Setup{Plan: api.Plan{Kind: api.Walks, N: 4, Length: 9}, Graph: circle(4), R: 2, C: 1, Room: 1, Limit: 5}
	for status := api.Going; status <= api.Overflow; status++ {
		for _, over := range []bool{false, true} {
			w, _ := worker.New(s, 0, 0)
			begun := w.State()
			queue(w)
			w.Hear(api.Frame{Kind: api.Order})
			queue(w)
			val := wide.Of(7)
			if over {
				val = api.Wide{Lo: 1 << 63}
			}
			want(t, "a Gather", w.Hear(api.Frame{Kind: api.Gather, Round: 1, Sums: []api.Sum{{At: 1, Val: val}}}), true)
			vote, state := api.Frame{Kind: api.Vote, Round: 1, N: 1}, stateOf(0, []one{{0, -1, false}, {7, -1, true}})
			if over {
				vote.N, vote.Over = 0, true
			}
			if over || status == api.Overflow {
				state = begun
			}
			want(t, "a Vote", queue(w), []api.Frame{vote})
			want(t, "what is kept aside is not told", w.State(), begun)
			want(t, "an Order", w.Hear(api.Frame{Kind: api.Order, Round: 1, N: int64(status)}), true)
			want(t, "State", w.State(), state)
			want(t, "Status", w.Status(), status)
		}
	}
	s.Plan, s.Graph = api.Plan{Kind: api.Indep, N: 2}, api.Graph{N: 2}
	s.R = 1
	w, _ := worker.New(s, 0, 0)
	queue(w)
	w.Hear(api.Frame{Kind: api.Order})
	queue(w)
	w.Hear(api.Frame{Kind: api.Gather, Round: 1, Sums: []api.Sum{{At: 1, Val: wide.Of(0)}}})
	queue(w)
	w.Hear(api.Frame{Kind: api.Order, Round: 1})
	queue(w)
	want(t, "0 is in", w.State().A, []int64{1, 0})
	w.Hear(api.Frame{Kind: api.Gather, Round: 2, Sums: []api.Sum{{At: 0, Val: api.Wide{Hi: 9}}, {At: 1, Val: wide.Of(1)}}})
	want(t, "who is not asked is left out", queue(w), []api.Frame{{Kind: api.Vote, Round: 2}})
}

func TestP23_3(t *testing.T) {
	var none *worker.Worker
	none.Gone()
	f, ok := none.Next()
	want(t, "Next of a nil worker", f, api.Frame{})
	want(t, "Hear of a nil worker", none.Hear(api.Frame{Kind: api.Vote, To: -1}), false)
	if ok || none.Left() != 0 || none.Hear(api.Frame{Kind: api.Vote}) || none.Number() != -1 || none.Round() != 0 || none.Status() != api.Going || none.Stored() != 0 || !same(none.State(), api.State{}) {
		t.Error("a nil worker has nothing")
	}
	draws := api.Setup{Plan: api.Plan{Kind: api.Indep, N: 2, Draws: []int64{5, 6}}, Graph: path(2), R: 1, C: 1, Room: 1, Limit: 9}
	w, _ := worker.New(draws, 0, 0)
	queue(w)
	scribble(reflect.ValueOf(draws.Plan.Draws))
	w.Hear(api.Frame{Kind: api.Order})
	want(t, "a plan's draws are not kept", queue(w), []api.Frame{{Kind: api.Share, Round: 1, Vec: api.Vec{N: 2, Items: []api.Item{{At: 0, Val: 5 * 4096}, {At: 1, Val: 6*4096 + 1}}}}})
	s := api.Setup{Plan: api.Plan{Kind: api.Labels, N: 5}, Graph: circle(5), R: 2, C: 2, Room: 1, Limit: 9}
	w, _ = worker.New(s, 0, 0)
	queue(w)
	w.Gone()
	want(t, "Gone of nothing", w.Left(), 0)
	want(t, "a Share", w.Hear(api.Frame{Kind: api.Share, From: 0, Round: 1, Vec: api.Vec{N: 2, Items: []api.Item{{At: 0, Val: 1}, {At: 1, Val: 2}}}}), true)
	want(t, "Stored of Shares", w.Stored(), 2)
	w.Hear(api.Frame{Kind: api.Order})
	want(t, "a Gather", w.Hear(api.Frame{Kind: api.Gather, From: 1, Round: 1, Sums: []api.Sum{{At: 1}}}), true)
	want(t, "Stored of Shares and Sums", w.Stored(), 3)
	state := w.State()
	scribble(reflect.ValueOf(state))
	want(t, "what is told is the caller's", w.State(), prog.Begin(s.Plan, 0, 2))
	want(t, "the other Share", w.Hear(api.Frame{Kind: api.Share, From: 2, Round: 1}), true)
	want(t, "Stored of Sums", w.Stored(), 1)
	w, _ = worker.New(s, 1, 1)
	scribble(reflect.ValueOf(s.Graph.Edges))
	want(t, "Stored of who owns nothing", w.Stored(), 0)
	want(t, "a Spread", w.Hear(api.Frame{Kind: api.Spread, From: 1, To: 3, Round: 1, Vec: spvec.Fill(3, 4)}), true)
	want(t, "a setup is not kept", queue(w), []api.Frame{{Kind: api.Gather, From: 3, To: 2, Round: 1, Sums: []api.Sum{{At: 0, Val: wide.Of(4)}, {At: 1, Val: wide.Of(4)}, {At: 2, Val: wide.Of(4)}}}})
}

func TestP23_4(t *testing.T) {
	d := &dice{state: 4}
	for i := 0; i < 20; i++ {
		s := d.setup(api.Labels)
		s.Graph = steep(9)
		s.Plan.N, s.Limit = 9, 30
		p := newTheatre(t, s)
		p.run(d, false)
		p.ended()
	}
}

func TestP23_5(t *testing.T) {
	d := &dice{state: 5}
	for i := 0; i < 30; i++ {
		for _, k := range allKinds {
			p := newTheatre(t, d.setup(k))
			p.run(d, true)
			p.ended()
		}
	}
}

func TestWorkerWhatever(t *testing.T) {
	whatever(t, 400, face{"worker.Check", worker.Check, false}, face{"worker.New and Hear", func(s api.Setup, i, j int, f, g api.Frame) (api.Frame, api.State, int, api.Errno) {
		w, e := worker.New(s, i%3, j%3)
		if e != api.OK {
			return api.Frame{}, api.State{}, 0, e
		}
		f.To, f.Round, f.From = w.Number(), 0, f.From%4
		w.Hear(f)
		g.To, g.Round, g.From = w.Number(), 1, g.From%4
		w.Hear(g)
		x, _ := w.Next()
		return x, w.State(), w.Left() + w.Stored(), api.OK
	}, false}, face{"worker.Worker", func(f api.Frame) bool {
		w := &worker.Worker{}
		w.Gone()
		_, ok := w.Next()
		return w.Hear(f) || ok || w.Left()+w.Round()+w.Stored() > 0 || w.Status() != api.Going
	}, false})
	r, _ := model.Run(api.Plan{Kind: api.Labels, N: 1}, api.Graph{N: 1}, 3)
	want(t, "a model's status", r.Status, api.Done)
}
