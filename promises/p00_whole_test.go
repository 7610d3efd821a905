package promises

import (
	"slices"
	"testing"

	"fretwork/api"
	"fretwork/audit"
	"fretwork/comps"
	"fretwork/hops"
	"fretwork/indep"
	"fretwork/job"
	"fretwork/loader"
	"fretwork/model"
	"fretwork/part"
	"fretwork/paths"
	"fretwork/play"
	"fretwork/replay"
	"fretwork/script"
	"fretwork/tri"
	"fretwork/vertex"
)

// broad is a setup with a grid of any size.
func (d *dice) broad(k api.ProgKind) api.Setup {
	s := d.setup(k)
	s.R, s.C, s.Room = d.between(1, 8), d.between(1, 8), d.between(1, 64)
	if d.coin() {
		s.Graph = d.graph(100, 150)
		s.Graph.N++
		s.Plan.N, s.Limit = s.Graph.N, 250
	}
	return s
}

func TestE1(t *testing.T) {
	d := &dice{state: 1}
	for i := 0; i < 12; i++ {
		for _, k := range allKinds {
			s := d.broad(k)
			right, _ := model.Run(s.Plan, s.Graph, s.Limit)
			trace, _ := model.Trace(s.Plan, s.Graph, s.Limit)
			told, e := play.Run(s, d.script(s.R*s.C, 2000), 20000)
			want(t, "its error", e, api.OK)
			want(t, "one answer", told.Result, right)
			states, _ := play.Trace(s, d.script(s.R*s.C, 2000), 20000)
			want(t, "what vertices have behind each superstep", states, trace)
			alone, _ := vertex.Run(s.Plan, s.Graph, s.Limit)
			want(t, "vertex by vertex", alone, right)
		}
	}
	r, _ := play.Run(hops.Setup(path(3), 0, 3, 2), nil, 1000)
	want(t, "levels of a path", r.Result.State.A, []int64{0, 1, 2})
}

func TestE2(t *testing.T) {
	d := &dice{state: 2}
	for i := 0; i < 12; i++ {
		for _, k := range allKinds {
			s := d.broad(k)
			right, _ := model.Run(s.Plan, s.Graph, s.Limit)
			told, _ := play.Run(s, nil, bound(s, right.Rounds))
			want(t, "it ends", told.Result, right)
		}
	}
}

func TestE3(t *testing.T) {
	d := &dice{state: 3}
	for i := 0; i < 8; i++ {
		for _, k := range allKinds {
			s := d.broad(k)
			s.Room = d.between(1, 3)
			g := newGrid(t, s)
			for n := 0; n < 400; n++ {
				if d.below(4) == 0 {
					g.Window()
				}
				d.act(g)
				from := d.below(g.Workers())
				want(t, "no worker stores more", g.Stored(from) <= part.Most(s.Plan.N, s.R)+part.Most(s.Plan.N, s.C), true)
				for to := range g.Workers() {
					want(t, "no box has more", g.Len(from, to) <= s.Room, true)
				}
				want(t, "no more are sent", g.Sent() <= 5*s.R*s.C*(g.Rounds()+3), true)
			}
		}
	}
}

func TestE4(t *testing.T) {
	d := &dice{state: 4}
	for i := 0; i < 500; i++ {
		b := bytesOfAll[d.below(len(bytesOfAll))](d)
		if d.coin() && len(b) > 0 {
			b[d.below(len(b))] = byte(d.word())
		}
		if g, f := loader.Decode(b); f.Errno == api.OK && loader.Canon(b) {
			again, _ := loader.Encode(g)
			want(t, "what is read of canonical bytes", again, b)
		} else if f.Errno != api.OK {
			want(t, "a place", f.At >= 0 && f.At <= len(b), true)
		}
		if l, f := replay.Decode(b); f.Errno == api.OK {
			again, _ := replay.Encode(l)
			want(t, "what is read of moves' bytes", again, b)
		}
		j := d.job(allJobs[d.below(6)])
		j.Graph = b
		f := job.Check(j)
		a, failed := job.Run(j)
		want(t, "refused or run", failed, f)
		want(t, "refused or run", a.Status == api.Going, f.Stage != api.NoStage)
	}
	_, f := job.Run(api.Job{})
	want(t, "bytes that end too early", f, api.Failure{Stage: api.Reading, Fault: api.Fault{Errno: api.ErrShort}})
}

func TestE5(t *testing.T) {
	d := &dice{state: 5}
	for i := 0; i < 25; i++ {
		g := d.graph(60, 200)
		g.N++
		source, r, c := d.below(g.N), d.between(1, 8), d.between(1, 8)
		levels, parents, _ := hops.Run(g, source, r, c)
		rightL, rightP := hopsOf(g, source)
		want(t, "hops", [2][]int64{levels, parents}, [2][]int64{rightL, rightP})
		far, _ := paths.Run(g, source, r, c)
		want(t, "distances", far, farOf(g, source))
		labels, _ := comps.Run(g, r, c)
		want(t, "labels", labels, labelsOf(g))
		n, _ := tri.Run(g, r, c)
		want(t, "triangles", n, int64(len(trianglesOf(g))))
		l, _, _ := indep.Run(g, d.draws(), r, c)
		want(t, "a full set", isFull(g, l), true)
	}
}

// TestWholeText takes a job from its text to an answer that is judged.
func TestWholeText(t *testing.T) {
	d := &dice{state: 6}
	for i := 0; i < 60; i++ {
		for _, k := range allJobs {
			j := d.job(k)
			j.Moves = slices.DeleteFunc(j.Moves, func(m api.Move) bool { return script.Move(m) == "" })
			j.Choices = nil
			s, e := script.Print(j)
			want(t, "Print", e, api.OK)
			again, f := script.Parse(s)
			want(t, "Parse", f, api.Fault{})
			again.Graph = j.Graph
			a, _ := job.Run(j)
			b, _ := job.Run(again)
			want(t, "one answer", b, a)
			found, _ := audit.Judge(again, b)
			want(t, "nothing is found", found, nil)
		}
	}
}
