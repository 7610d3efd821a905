package promises

import (
	"slices"
	"testing"

	"fretwork/api"
	"fretwork/audit"
	"fretwork/job"
	"fretwork/loader"
	"fretwork/model"
	"fretwork/play"
	"fretwork/summa"
)

// judged is what is wrong with an answer, by other means.
func judged(j api.Job, a api.Answer) []api.Finding {
	g, _ := loader.Decode(j.Graph)
	s := job.Setup(j, g)
	m, _ := job.Model(j)
	trace, _ := model.Trace(s.Plan, s.Graph, s.Limit)
	right, none := m, false
	if a.Status == api.Starved {
		right = api.Answer{Status: api.Starved}
		if j.Kind != api.JobTri {
			if none = a.Rounds < 0 || a.Rounds >= len(trace); !none {
				right.Rounds, right.A, right.B = a.Rounds, trace[a.Rounds].A, trace[a.Rounds].B
			}
		}
	}
	var out []api.Finding
	if a.Status != right.Status {
		out = append(out, api.BadStatus)
	}
	if none || a.Rounds != right.Rounds {
		out = append(out, api.BadRounds)
	}
	if !none && (!slices.Equal(a.A, right.A) || !slices.Equal(a.B, right.B)) {
		out = append(out, api.BadValues)
	}
	if a.Count != right.Count {
		out = append(out, api.BadCount)
	}
	if a.Sent < 0 || j.Kind == api.JobTri && a.Sent > 0 || a.Sent > 5*j.R*j.C*(m.Rounds+3) {
		out = append(out, api.BadSent)
	}
	return out
}

// bent is an answer with some things changed.
func (d *dice) bent(j api.Job, a api.Answer) api.Answer {
	a.A, a.B = slices.Clone(a.A), slices.Clone(a.B)
	for n := d.between(1, 3); n > 0; n-- {
		switch d.below(9) {
		case 0:
			a.Status = api.Status(d.below(6))
		case 1:
			a.Rounds += d.below(4) - 2
		case 2:
			a.Count += int64(d.below(3)) - 1
		case 3:
			a.Sent = []int{-1, 0, 1, 5 * j.R * j.C * (a.Rounds + 3), 5*j.R*j.C*(a.Rounds+3) + 1}[d.below(5)]
		case 4:
			a.A = append(a.A, 0)
		case 5:
			a.B = a.B[:d.below(len(a.B)+1)]
		case 6:
			if len(a.A) > 0 {
				a.A[d.below(len(a.A))] += int64(d.below(3)) - 1
			}
		case 7:
			if len(a.B) > 0 {
				a.B[d.below(len(a.B))]++
			}
		case 8:
			a.Rounds = int(d.odd())
		}
	}
	return a
}

func TestP34_1(t *testing.T) {
	d := &dice{}
	seen := map[api.Finding]int{}
	for i := 0; i < 100; i++ {
		for _, k := range allJobs {
			j := d.job(k)
			a, _ := job.Run(j)
			m, _ := job.Model(j)
			for _, x := range []api.Answer{a, m, d.bent(j, a), d.bent(j, a), d.bent(j, m), {Status: api.Starved}, {Status: api.Starved, Rounds: m.Rounds, A: m.A, B: m.B}, {Status: api.Starved, Rounds: m.Rounds + 1, A: m.A, B: m.B}, {}} {
				l, f := audit.Judge(j, x)
				right := judged(j, x)
				want(t, "Judge", l, right)
				want(t, "its failure", f, api.Failure{})
				for _, n := range right {
					seen[n]++
				}
			}
		}
	}
	for n := api.BadStatus; n <= api.BadSent; n++ {
		want(t, "each is found", seen[n] > 20, true)
	}
	for _, k := range allJobs {
		j := d.job(k)
		for _, change := range []func(j *api.Job){func(j *api.Job) { j.Graph = nil }, func(j *api.Job) { j.R = 0 }, func(j *api.Job) { j.Kind = 0 }, func(j *api.Job) { j.Windows = -1 }, func(j *api.Job) { j.Moves = badMoves }} {
			x := j
			change(&x)
			right := job.Check(x)
			l, f := audit.Judge(x, api.Answer{Sent: -1})
			want(t, "Judge's failure", f, right)
			want(t, "nothing beside it", l, nil)
			m, _ := job.Model(j)
			is, f := audit.Right(x, m)
			want(t, "Right's failure", f, right)
			want(t, "nothing beside it", is, false)
			is, f = audit.Clean(x)
			want(t, "Clean's failure", f, right)
			want(t, "nothing beside it", is, false)
			fair, f := audit.Fair(x)
			want(t, "Fair's failure", f, right)
			want(t, "nothing beside it", fair, api.Job{})
		}
	}
}

// proper tells whether an answer is right by what it is, by other means.
func proper(j api.Job, a api.Answer) bool {
	g, _ := loader.Decode(j.Graph)
	none := slices.Repeat([]int64{-1}, g.N)
	if a.Status != api.Done {
		return false
	}
	if j.Kind == api.JobTri {
		return len(a.A)+len(a.B) == 0 && a.Count == int64(len(trianglesOf(g)))
	}
	if a.Count != 0 || len(a.A) != g.N || len(a.B) != g.N {
		return false
	}
	switch j.Kind {
	case api.JobLevels:
		levels, parents := hopsOf(g, j.Source)
		return slices.Equal(a.A, levels) && slices.Equal(a.B, parents)
	case api.JobPaths:
		return slices.Equal(a.A, farOf(g, j.Source)) && slices.Equal(a.B, none)
	case api.JobLabels:
		return slices.Equal(a.A, labelsOf(g)) && slices.Equal(a.B, none)
	case api.JobWalks:
		m, _ := job.Model(j)
		return slices.Equal(a.A, m.A) && slices.Equal(a.B, m.B)
	}
	var l []int
	for v, x := range a.A {
		if x == 1 {
			l = append(l, v)
		} else if x != 2 {
			return false
		}
	}
	return isFull(g, l) && slices.Equal(a.B, none)
}

func TestP34_2(t *testing.T) {
	d := &dice{state: 2}
	seen := map[bool]int{}
	for i := 0; i < 100; i++ {
		for _, k := range allJobs {
			j := d.job(k)
			a, _ := job.Run(j)
			m, _ := job.Model(j)
			for _, x := range []api.Answer{a, m, d.bent(j, a), d.bent(j, m), d.bent(j, m)} {
				x.Sent, x.Rounds = d.below(99)-9, d.below(99)-9
				is, f := audit.Right(j, x)
				want(t, "Right", is, proper(j, x))
				want(t, "its failure", f, api.Failure{})
				seen[is]++
			}
			if k == api.JobIndep && len(m.A) > 0 && m.Status == api.Done {
				x := m
				x.A = slices.Clone(m.A)
				at := d.below(len(x.A))
				x.A[at] = 3 - x.A[at]
				is, _ := audit.Right(j, x)
				want(t, "Right of another set", is, proper(j, x))
				if at = slices.Index(m.A, 2); at >= 0 {
					x.A = slices.Clone(m.A)
					x.A[at] = 0
					is, _ = audit.Right(j, x)
					want(t, "Right of a vertex that is free yet", is, false)
				}
			}
		}
	}
	want(t, "some are right", seen[true] > 200 && seen[false] > 200, true)
}

func TestP34_3(t *testing.T) {
	d := &dice{state: 3}
	for i := 0; i < 60; i++ {
		for _, k := range allJobs {
			j := d.job(k)
			is, f := audit.Clean(j)
			want(t, "Clean", is, true)
			want(t, "its failure", f, api.Failure{})
			m, _ := job.Model(j)
			g, _ := loader.Decode(j.Graph)
			right := j
			right.Moves = nil
			if k == api.JobTri {
				p, _ := job.Product(j, g)
				right.Windows = summa.Bound(p)
			} else {
				right.Windows = play.Bound(job.Setup(j, g), m.Rounds)
			}
			fair, f := audit.Fair(j)
			want(t, "Fair", fair, right)
			want(t, "its failure", f, api.Failure{})
		}
	}
}

func TestP34_4(t *testing.T) {
	d := &dice{state: 4}
	for i := 0; i < 100; i++ {
		for _, k := range allJobs {
			j := d.job(k)
			a, _ := job.Run(j)
			l, _ := audit.Judge(j, a)
			want(t, "nothing is found", l, nil)
		}
	}
	a := api.Answer{Status: api.Starved, A: []int64{0, 1}, B: []int64{-1, -1}}
	l, _ := audit.Judge(api.Job{Kind: api.JobLabels, Graph: graphBytes(path(2), 0), R: 1, C: 1, Room: 1, Limit: 3}, a)
	want(t, "a starved answer of no supersteps", l, nil)
}

func TestP34_5(t *testing.T) {
	d := &dice{state: 5}
	for i := 0; i < 60; i++ {
		for _, k := range allJobs {
			j := d.job(k)
			a, _ := job.Run(j)
			for n, change := range []func(a *api.Answer){
				func(a *api.Answer) { a.Status += 10 }, func(a *api.Answer) { a.Status = api.Going }, func(a *api.Answer) { a.Rounds += 9000 }, func(a *api.Answer) { a.Rounds = -1 - a.Rounds }, func(a *api.Answer) { a.A = append(slices.Clone(a.A), 0) }, func(a *api.Answer) { a.B = append(slices.Clone(a.B), 0) }, func(a *api.Answer) { a.Count++ },
				func(a *api.Answer) {
					if len(a.A) == 0 {
						a.A = []int64{1}
					} else {
						a.A = slices.Clone(a.A)
						a.A[d.below(len(a.A))]++
					}
				},
			} {
				x := a
				change(&x)
				l, _ := audit.Judge(j, x)
				if len(l) == 0 {
					t.Errorf("the change %d is not found: %v of %v", n, x, a)
				}
			}
		}
	}
}

func TestP34_6(t *testing.T) {
	d := &dice{state: 6}
	done := 0
	for i := 0; i < 100; i++ {
		for _, k := range allJobs {
			j := d.job(k)
			a, _ := job.Run(j)
			is, _ := audit.Right(j, a)
			want(t, "what is Done is Right", is, a.Status == api.Done)
			if is {
				done++
			}
		}
	}
	want(t, "some are Done", done > 100, true)
}

func TestP34_7(t *testing.T) {
	d := &dice{state: 7}
	for i := 0; i < 100; i++ {
		for _, k := range allJobs {
			j := d.job(k)
			fair, _ := audit.Fair(j)
			a, f := job.Run(fair)
			want(t, "a Fair job is run", f, api.Failure{})
			want(t, "it is not Starved", a.Status != api.Starved, true)
			if k == api.JobLevels || k == api.JobPaths || k == api.JobLabels {
				g, _ := loader.Decode(j.Graph)
				j.Limit = g.N + 1
				fair, _ = audit.Fair(j)
				a, _ = job.Run(fair)
				want(t, "it is Done", a.Status, api.Done)
			}
		}
	}
}

func TestAuditWhatever(t *testing.T) {
	calm := func(j api.Job) api.Job {
		j.Limit, j.Windows = j.Limit%50, j.Windows%200
		return j
	}
	whatever(t, 150, face{"audit.Judge", func(j api.Job, a api.Answer) ([]api.Finding, api.Failure) { return audit.Judge(calm(j), a) }, false},
		face{"audit.Right", func(j api.Job, a api.Answer) (bool, api.Failure) { return audit.Right(calm(j), a) }, false},
		face{"audit.Clean", func(j api.Job) (bool, api.Failure) { return audit.Clean(calm(j)) }, false},
		face{"audit.Fair", func(j api.Job) (api.Job, api.Failure) { return audit.Fair(calm(j)) }, false})
}
