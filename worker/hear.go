package worker

import (
	"fretwork/api"
	"fretwork/block"
	"fretwork/part"
	"fretwork/policy"
	"fretwork/prog"
	"fretwork/pull"
	"fretwork/push"
	"fretwork/spvec"
)

// Hear takes a frame: false, if the worker does not wait for it.
func (w *Worker) Hear(f api.Frame) bool {
	if w == nil || f.To != w.Number() || !w.waits(f) {
		return false
	}
	switch f.Kind {
	case api.Share:
		w.hearShare(f)
	case api.Spread:
		w.hearSpread(f)
	case api.Gather:
		w.hearGather(f)
	case api.Vote:
		w.hearVote(f)
	case api.Order:
		w.hearOrder(f)
	}
	return true
}

// waits tells whether the worker waits for a frame that goes to it.
func (w *Worker) waits(f api.Frame) bool {
	from := place{part.Row(w.c, f.From), part.Col(w.c, f.From)}
	if from.row < 0 || from.row >= w.r {
		return false
	}
	switch f.Kind {
	case api.Share:
		return w.ownsColumn() && from.col == 0 && open(w.shares, f) && w.slice(f.Vec, from.row)
	case api.Spread:
		return from == place{0, w.col} && f.Round == w.spread && w.piece(f.Vec)
	case api.Gather:
		return w.ownsRow() && from.row == w.row && w.gathers(f)
	case api.Vote:
		return w.first() && from.col == 0 && open(w.votes, f)
	case api.Order:
		o := w.owned
		told := api.Status(f.N) >= api.Going && api.Status(f.N) <= api.Overflow
		return w.ownsRow() && from == place{} && o.status == api.Going && o.voted && f.Round == o.step && told
	}
	return false
}

// open tells whether a frame is of the round, and the first one of its sender.
func open[T any](b inbox[T], f api.Frame) bool {
	_, is := b.came[f.From]
	return !b.ended && f.Round == b.round && !is
}

// slice tells whether a vector has as many places as the slice that the owner of a row sends to this column.
func (w *Worker) slice(v api.Vec, row int) bool {
	blank := api.Vec{N: part.Size(w.plan.N, w.r, row)}
	return spvec.Right(v) && v.N == block.Slice(blank, w.plan.N, w.r, w.c, row, w.col).N
}

// piece tells whether a vector has as many places as the piece of this column.
func (w *Worker) piece(v api.Vec) bool {
	return spvec.Right(v) && v.N == part.Size(w.plan.N, w.c, w.col)
}

// gathers tells whether a Gather is of the superstep it is in, the first one of its sender, and lies within its rows. At first, and once it does not go on, the worker has voted.
func (w *Worker) gathers(f api.Frame) bool {
	o := w.owned
	_, is := o.gathered[f.From]
	if f.Round != o.step || o.voted || is {
		return false
	}
	last := -1
	for _, s := range f.Sums {
		if s.At <= last || s.At >= part.Size(w.plan.N, w.r, w.row) {
			return false
		}
		last = s.At
	}
	return true
}

// hearShare spreads what the owners of rows share, once all have.
func (w *Worker) hearShare(f api.Frame) {
	b := &w.shares
	b.came[f.From] = spvec.Part(f.Vec, 0, f.Vec.N)
	if len(b.came) < w.r {
		return
	}
	var l []api.Vec
	for i := range w.r {
		l = append(l, b.came[part.Place(w.c, i, 0)])
	}
	all, _ := block.Fit(w.plan.N, w.r, w.c, w.col, l) // each one was held against its slice as it came
	for i := range w.r {
		w.send(api.Frame{Kind: api.Spread, To: part.Place(w.c, i, w.col), Round: b.round, Vec: all})
	}
	clear(b.came)
	b.round++
}

// choice is the way and the form of a superstep's products.
func (w *Worker) choice(round int) api.Choice {
	if len(w.choices) == 0 {
		return api.Choice{}
	}
	return w.choices[(round-1)%len(w.choices)]
}

// hearSpread reckons the worker's block times what comes.
func (w *Worker) hearSpread(f api.Frame) {
	c := w.choice(w.spread)
	sums, _, _ := policy.Sums(policy.Task{Ring: w.ring(w.spread), Rows: w.byRows, Cols: w.byCols, X: policy.Hold(c.Form, f.Vec), Others: true, Way: c.Way}) // the piece has the block's columns
	w.send(api.Frame{Kind: api.Gather, To: part.Place(w.c, w.row, 0), Round: w.spread, Sums: sums})
	w.spread++
}

// hearGather merges what the row's workers reckon, and votes, once all have.
func (w *Worker) hearGather(f api.Frame) {
	o := &w.owned
	o.sums, _ = push.Merge(w.ring(o.step), o.sums, f.Sums) // both rise
	o.gathered[f.From] = len(f.Sums)
	if len(o.gathered) < w.c {
		return
	}
	got, e := pull.Done(w.ring(o.step), len(o.state.A), w.asked(o.sums))
	clear(o.gathered)
	o.sums, o.aside = nil, nil
	if e != api.OK {
		w.vote(api.Frame{Over: true})
		return
	}
	next := prog.Update(w.plan, o.state, o.step, got)
	o.aside = &next
	w.vote(api.Frame{N: int64(prog.Live(w.plan, next, o.step))})
}

// asked is the sums of those vertices that are asked.
func (w *Worker) asked(l []api.Sum) []api.Sum {
	set, others := prog.Asked(w.plan, w.owned.state, w.owned.step)
	var out []api.Sum
	for _, s := range l {
		in := s.At/64 < len(set) && set[s.At/64]>>uint(s.At%64)&1 == 1
		if in != others {
			out = append(out, s)
		}
	}
	return out
}

// vote sends the first worker how the owner's row stands.
func (w *Worker) vote(f api.Frame) {
	f.Kind, f.To, f.Round = api.Vote, 0, w.owned.step
	w.owned.voted = true
	w.send(f)
}

// hearVote orders how it goes on, once all owners of rows have voted.
func (w *Worker) hearVote(f api.Frame) {
	b := &w.votes
	b.came[f.From] = vote{f.N, f.Over}
	if len(b.came) < w.r {
		return
	}
	status := w.decide()
	for i := range w.r {
		w.send(api.Frame{Kind: api.Order, To: part.Place(w.c, i, 0), Round: b.round, N: int64(status)})
	}
	clear(b.came)
	if status != api.Going {
		b.ended = true
		return
	}
	b.round++
}

// decide is what all votes come to.
func (w *Worker) decide() api.Status {
	over, live := false, false
	for _, v := range w.votes.came {
		over = over || v.over
		live = live || v.live != 0
	}
	switch {
	case over:
		return api.Overflow
	case !live:
		return api.Done
	case w.votes.round == w.limit:
		return api.Limit
	}
	return api.Going
}

// hearOrder takes what was kept aside, and goes on, if it is to.
func (w *Worker) hearOrder(f api.Frame) {
	o := &w.owned
	o.status = api.Status(f.N)
	if o.status != api.Overflow {
		o.complete = o.step
		if o.aside != nil {
			o.state = *o.aside
		}
	}
	if o.status == api.Going {
		o.step++
		o.voted = false
		w.share()
	}
}

// share begins a superstep: each owner of a column gets its slice of what the row's vertices tell.
func (w *Worker) share() {
	o := w.owned
	told := prog.Out(w.plan, o.state, o.step)
	for j := range w.c {
		v := block.Slice(told, w.plan.N, w.r, w.c, w.row, j)
		w.send(api.Frame{Kind: api.Share, To: part.Place(w.c, 0, j), Round: o.step, Vec: v})
	}
}
