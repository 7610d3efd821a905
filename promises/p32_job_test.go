package promises

import (
	"math"
	"slices"
	"testing"

	"fretwork/api"
	"fretwork/gemm"
	"fretwork/job"
	"fretwork/loader"
	"fretwork/model"
	"fretwork/play"
	"fretwork/summa"
	"fretwork/tri"
	"fretwork/worker"
)

var allJobs = []api.JobKind{api.JobLevels, api.JobPaths, api.JobLabels, api.JobWalks, api.JobIndep, api.JobTri}

// job is a job that can be.
func (d *dice) job(k api.JobKind) api.Job {
	kind := api.ProgKind(k)
	if k == api.JobTri {
		kind = api.Labels
	}
	s := d.setup(kind)
	if k == api.JobTri {
		s.Graph = d.graph(9, 30)
	}
	j := api.Job{Kind: k, Graph: graphBytes(s.Graph, 1), Source: s.Plan.Source, Length: s.Plan.Length, Draws: s.Plan.Draws, R: s.R, C: s.C, Room: s.Room, Limit: s.Limit, Choices: s.Choices}
	j.Moves, j.Windows = d.script(s.R*s.C, 80), []int{0, 3, 20, 2000, 2000}[d.below(5)]
	return j
}

func init() {
	maker(func(d *dice) api.Job { return d.job(allJobs[d.below(6)]) })
	maker(func(d *dice) api.JobKind { return api.JobKind(d.below(8)) })
	maker(func(d *dice) api.Answer {
		a, _ := job.Run(d.job(allJobs[d.below(6)]))
		return a
	})
}

func TestP32_1(t *testing.T) {
	d := &dice{}
	for i := 0; i < 100; i++ {
		for _, k := range append([]api.JobKind{0, -1, 7}, allJobs...) {
			j := d.job(max(1, min(k, 6)))
			j.Kind = k
			g, _ := loader.Decode(j.Graph)
			p := api.Plan{Kind: api.ProgKind(k), N: g.N, Source: j.Source, Length: j.Length, Draws: j.Draws}
			want(t, "Plan", job.Plan(j, g), p)
			want(t, "Setup", job.Setup(j, g), api.Setup{Plan: p, Graph: g, R: j.R, C: j.C, Room: j.Room, Limit: j.Limit, Choices: j.Choices})
			for _, x := range [][3]int{{j.R, j.C, j.Room}, {0, 1, 0}, {1, 9, 1}, {8, 8, 64}, {1, 1, 0}, {1, 1, 65}, {1, 1, math.MinInt}} {
				j.R, j.C, j.Room = x[0], x[1], x[2]
				right, re := tri.Product(g, j.R, j.C)
				right.Room = j.Room
				if re == api.OK && (j.Room < 1 || j.Room > 64) {
					re = api.ErrRange
				}
				if re != api.OK {
					right = api.Product{}
				}
				got, e := job.Product(j, g)
				want(t, "Product", got, right)
				want(t, "its error", e, re)
			}
		}
	}
	for _, g := range wrongGraphs {
		_, e := job.Product(api.Job{R: 0, C: 1}, g)
		_, re := tri.Product(g, 1, 1)
		want(t, "Product's error", e, re)
	}
}

func TestP32_2(t *testing.T) {
	d := &dice{state: 2}
	for i := 0; i < 100; i++ {
		for _, k := range allJobs {
			j := d.job(k)
			want(t, "Check", job.Check(j), api.Failure{})
			for _, bad := range []struct {
				change func(j *api.Job)
				f      api.Failure
			}{
				{func(j *api.Job) { j.Graph, j.Kind, j.Windows = nil, 0, -1 }, api.Failure{Stage: api.Reading, Fault: api.Fault{Errno: api.ErrShort}}},
				{func(j *api.Job) { j.Graph = append(slices.Clone(j.Graph), 1) }, api.Failure{Stage: api.Reading, Fault: api.Fault{Errno: api.ErrSize, At: len(j.Graph)}}},
				{func(j *api.Job) { j.Graph, j.R = j.Graph[:9], 0 }, api.Failure{Stage: api.Reading, Fault: api.Fault{Errno: api.ErrShort, At: 9}}},
				{func(j *api.Job) { j.Kind, j.R, j.Windows = 0, 0, -1 }, api.Failure{Stage: api.Planning, Fault: api.Fault{Errno: api.ErrKind}}},
				{func(j *api.Job) { j.Kind = 7 }, api.Failure{Stage: api.Planning, Fault: api.Fault{Errno: api.ErrKind}}},
				{func(j *api.Job) { j.Kind = -1 }, api.Failure{Stage: api.Planning, Fault: api.Fault{Errno: api.ErrKind}}},
				{func(j *api.Job) { j.R, j.Windows = 0, -1 }, api.Failure{Stage: api.Planning, Fault: api.Fault{Errno: api.ErrRange}}},
				{func(j *api.Job) { j.C = 9 }, api.Failure{Stage: api.Planning, Fault: api.Fault{Errno: api.ErrRange}}},
				{func(j *api.Job) { j.Room, j.Moves = 0, badMoves }, api.Failure{Stage: api.Planning, Fault: api.Fault{Errno: api.ErrRange}}},
				{func(j *api.Job) {
					j.Moves, j.Windows = append(slices.Clone(j.Moves), api.Move{Kind: 6}, api.Move{}), -1
				}, api.Failure{Stage: api.Scripted, Fault: api.Fault{Errno: api.ErrKind, At: len(j.Moves)}}},
				{func(j *api.Job) { j.Windows = -1 }, api.Failure{Stage: api.Scripted, Fault: api.Fault{Errno: api.ErrRange}}},
				{func(j *api.Job) { j.Windows = 1<<20 + 1 }, api.Failure{Stage: api.Scripted, Fault: api.Fault{Errno: api.ErrRange}}},
			} {
				x := j
				bad.change(&x)
				want(t, "Check", job.Check(x), bad.f)
				a, f := job.Run(x)
				want(t, "Run's failure", f, bad.f)
				want(t, "nothing beside it", a, api.Answer{})
				a, f = job.Model(x)
				want(t, "Model's failure", f, bad.f)
				want(t, "nothing beside it", a, api.Answer{})
			}
			j.Source, j.Limit, j.Draws, j.Choices = -1, -1, []int64{-1}, make([]api.Choice, 8193)
			g, _ := loader.Decode(j.Graph)
			e := worker.Check(job.Setup(j, g))
			if k == api.JobTri {
				e = api.OK
			}
			f := job.Check(j)
			want(t, "what is not asked is not checked", f.Fault, api.Fault{Errno: e})
			want(t, "its stage", f.Stage == api.Planning, e != api.OK)
		}
	}
	j := d.job(api.JobTri)
	j.Moves, j.Windows = make([]api.Move, api.MaxActs+1), -1
	want(t, "too many moves", job.Check(j), api.Failure{Stage: api.Scripted, Fault: api.Fault{Errno: api.ErrLong}})
	j.Moves = j.Moves[1:]
	want(t, "moves that can't be", job.Check(j), api.Failure{Stage: api.Scripted, Fault: api.Fault{Errno: api.ErrKind}})
	j.Moves, j.Windows = nil, 1<<20
	want(t, "as many windows as there may be", job.Check(j), api.Failure{})
}

func TestP32_3(t *testing.T) {
	d := &dice{state: 3}
	seen := map[api.Status]int{}
	for i := 0; i < 60; i++ {
		for _, k := range allJobs {
			j := d.job(k)
			g, _ := loader.Decode(j.Graph)
			var right, alone api.Answer
			if k == api.JobTri {
				p, _ := job.Product(j, g)
				_, ended, _ := summa.Run(p, j.Moves, j.Windows)
				m, _ := gemm.Times(api.PlusTimes, p.A, p.B, p.Mask)
				alone = api.Answer{Status: api.Done}
				alone.Count, _ = gemm.Total(api.PlusTimes, m)
				if right = alone; !ended {
					right = api.Answer{Status: api.Starved}
				}
			} else {
				s := job.Setup(j, g)
				r, _ := play.Run(s, j.Moves, j.Windows)
				right = api.Answer{Status: r.Result.Status, Rounds: r.Result.Rounds, A: r.Result.State.A, B: r.Result.State.B, Sent: r.Sent}
				x, _ := model.Run(s.Plan, s.Graph, s.Limit)
				alone = api.Answer{Status: x.Status, Rounds: x.Rounds, A: x.State.A, B: x.State.B}
			}
			seen[right.Status]++
			a, f := job.Run(j)
			want(t, "Run", a, right)
			want(t, "its failure", f, api.Failure{})
			b, f := job.Model(j)
			want(t, "Model", b, alone)
			want(t, "its failure", f, api.Failure{})
			want(t, "Same", job.Same(a, right) && job.Alike(a, right), true)
			for i, change := range []func(a *api.Answer){
				func(a *api.Answer) { a.Sent++ }, func(a *api.Answer) { a.Status++ }, func(a *api.Answer) { a.Rounds++ }, func(a *api.Answer) { a.Count++ }, func(a *api.Answer) { a.A = append(slices.Clone(a.A), 0) }, func(a *api.Answer) { a.B = append(slices.Clone(a.B), 0) },
				func(a *api.Answer) { a.A = slices.Clone(a.A); a.A = append(a.A, 0)[:len(a.A)]; a.Status-- },
			} {
				other := a
				change(&other)
				if job.Same(a, other) || job.Same(other, a) || job.Alike(a, other) != (i == 0) || job.Alike(other, a) != (i == 0) {
					t.Errorf("Same or Alike of the case %d", i)
				}
			}
			if len(a.A) > 0 {
				other := a
				other.A = slices.Clone(a.A)
				other.A[0]++
				want(t, "Same of other values", job.Same(a, other) || job.Alike(a, other), false)
				other = a
				other.B = slices.Clone(a.B)
				other.B[0]++
				want(t, "Same of other values", job.Same(a, other) || job.Alike(a, other), false)
			}
		}
	}
	want(t, "all statuses", seen[api.Done] > 20 && seen[api.Limit] > 20 && seen[api.Starved] > 20 && seen[api.Overflow] > 0, true)
}

func TestP32_4(t *testing.T) {
	d := &dice{state: 4}
	for i := 0; i < 60; i++ {
		for _, k := range allJobs {
			j := d.job(k)
			a, _ := job.Run(j)
			m, _ := job.Model(j)
			if a.Status != api.Starved {
				want(t, "as its model does", job.Alike(a, m), true)
			}
		}
	}
}

func TestP32_5(t *testing.T) {
	d := &dice{state: 5}
	refused := 0
	for i := 0; i < 600; i++ {
		j := throw(d, typeOf[api.Job]()).Interface().(api.Job)
		j.Limit, j.Windows = j.Limit%50, j.Windows%3000
		f := job.Check(j)
		a, g := job.Run(j)
		want(t, "Run's failure", g, f)
		if f.Stage != api.NoStage {
			refused++
			want(t, "it tells nothing else", a, api.Answer{})
			want(t, "a stage, an error, a place", f.Stage >= api.Reading && f.Stage <= api.Scripted && f.Fault.Errno != api.OK && f.Fault.At >= 0, true)
		} else {
			want(t, "it is run", a.Status > api.Going && a.Status <= api.Starved, true)
		}
	}
	want(t, "some are refused, some are run", refused > 50 && refused < 550, true)
}

func TestP32_6(t *testing.T) {
	d := &dice{state: 6}
	for i := 0; i < 60; i++ {
		for _, k := range allJobs {
			j := d.job(k)
			j.Windows = 5000
			a, _ := job.Run(j)
			j.R, j.C, j.Room, j.Choices = d.between(1, 4), d.between(1, 4), d.between(1, 4), []api.Choice{{Way: api.Way(d.below(3)), Form: api.Form(d.below(3))}}
			j.Moves = d.script(9, 50)
			b, _ := job.Run(j)
			want(t, "whatever grid and script", job.Alike(a, b) || a.Status == api.Starved || b.Status == api.Starved, true)
		}
	}
}

func TestJobWhatever(t *testing.T) {
	calm := func(j api.Job) api.Job {
		j.Limit, j.Windows = j.Limit%50, j.Windows%200
		return j
	}
	whatever(t, 200, face{"job.Plan", job.Plan, false}, face{"job.Setup", job.Setup, false}, face{"job.Product", job.Product, false}, face{"job.Check", job.Check, false},
		face{"job.Run", func(j api.Job) (api.Answer, api.Failure) { return job.Run(calm(j)) }, false},
		face{"job.Model", func(j api.Job) (api.Answer, api.Failure) { return job.Model(calm(j)) }, false},
		face{"job.Same", job.Same, false}, face{"job.Alike", job.Alike, false})
}
