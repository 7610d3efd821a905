package promises

import (
	"math"
	"reflect"
	"slices"
	"testing"

	"fretwork/api"
	"fretwork/gemm"
	"fretwork/part"
	"fretwork/post"
	"fretwork/summa"
)

// product is a product that can be.
func (d *dice) product(r api.Ring) api.Product {
	p := api.Product{Ring: r, R: d.between(1, 3), C: d.between(1, 3), Room: d.between(1, 4)}
	if d.below(8) == 0 {
		p.R, p.C = d.between(1, 8), d.between(1, 8)
	}
	rows, mid, cols := d.below(9), d.below(9), d.below(9)
	p.A, p.B, p.Mask = d.matrixOf(r, rows, mid), d.matrixOf(r, mid, cols), d.matrixOf(api.PlusTimes, rows, cols)
	if d.coin() {
		p.Mask = full(rows, cols)
	}
	return p
}

func init() {
	maker(func(d *dice) api.Product { return d.product(allRings[d.below(5)]) })
}

// badProducts can't be, each by one thing.
func badProducts() map[api.Errno][]api.Product {
	with := func(change func(p *api.Product)) api.Product {
		p := api.Product{Ring: api.PlusTimes, A: full(2, 3), B: full(3, 4), Mask: full(2, 4), R: 2, C: 2, Room: 1}
		change(&p)
		return p
	}
	bad := badMatrices()[5]
	return map[api.Errno][]api.Product{
		api.OK:       {with(func(*api.Product) {}), with(func(p *api.Product) { p.R, p.C, p.Room = 8, 8, 64 }), with(func(p *api.Product) { p.A, p.B, p.Mask = noMatrix, noMatrix, noMatrix })},
		api.ErrKind:  {{}, with(func(p *api.Product) { p.Ring, p.A = 6, bad }), with(func(p *api.Product) { p.Ring = -1 })},
		api.ErrValue: {with(func(p *api.Product) { p.A = bad }), with(func(p *api.Product) { p.B, p.A = bad, full(2, 9) }), with(func(p *api.Product) { p.Mask, p.R = api.Rows{}, 0 })},
		api.ErrSize:  {with(func(p *api.Product) { p.A, p.R = full(2, 4), 0 }), with(func(p *api.Product) { p.B = full(2, 4) }), with(func(p *api.Product) { p.Mask, p.Room = full(3, 4), 0 }), with(func(p *api.Product) { p.Mask = full(2, 3) })},
		api.ErrRange: {with(func(p *api.Product) { p.R = 0 }), with(func(p *api.Product) { p.R = 9 }), with(func(p *api.Product) { p.C = 0 }), with(func(p *api.Product) { p.C = 9 }), with(func(p *api.Product) { p.Room = 0 }), with(func(p *api.Product) { p.Room = 65 }), with(func(p *api.Product) { p.R = math.MinInt })},
	}
}

func TestP26_1(t *testing.T) {
	for e, l := range badProducts() {
		for i, p := range l {
			if got := summa.Check(p); got != e {
				t.Errorf("Check of the product %d of %d: %d", i, e, got)
			}
			m, got := summa.New(p)
			want(t, "New's error", got, e)
			want(t, "a machine, or none", m != nil, e == api.OK)
			bound := (p.R+p.C)*(p.R+p.C) + 2
			if e != api.OK {
				bound = 0
				_, _, got = summa.Run(p, badMoves, -1)
				want(t, "Run's error", got, e)
			}
			want(t, "Bound", summa.Bound(p), bound)
		}
	}
}

// mill is how a machine behaves, by other means.
type mill struct {
	p      api.Product
	stages []api.Segment
	out    [][]api.Frame
	boxes  map[[2]int]*post.Box
	came   []map[[2]int]bool
	stage  []int
}

func newMill(p api.Product) *mill {
	m := &mill{p: p, stages: part.Segments(p.A.Cols, p.R, p.C), boxes: map[[2]int]*post.Box{}}
	for i := range p.R {
		for j := range p.C {
			var l []api.Frame
			for at, s := range m.stages {
				if s.Col == j {
					for to := range p.C {
						l = append(l, api.Frame{Kind: api.Left, To: i*p.C + to, Round: at})
					}
				}
				if s.Row == i {
					for to := range p.R {
						l = append(l, api.Frame{Kind: api.Right, To: to*p.C + j, Round: at})
					}
				}
			}
			m.out = append(m.out, l)
			m.came = append(m.came, map[[2]int]bool{})
			m.stage = append(m.stage, 0)
		}
	}
	for from := range m.out {
		for to := range m.out {
			m.boxes[[2]int{from, to}], _ = post.New(p.Room)
		}
	}
	return m
}

func (m *mill) send(k int) bool {
	if k >= len(m.out) || len(m.out[k]) == 0 {
		return false
	}
	f := m.out[k][0]
	if m.boxes[[2]int{k, f.To}].Send(f) != api.OK {
		return false
	}
	m.out[k] = m.out[k][1:]
	return true
}

func (m *mill) hand(from, to, k int) bool {
	f, ok, _ := m.boxes[[2]int{from, to}].Take(k)
	if ok {
		m.came[to][[2]int{int(f.Kind), f.Round}] = true
		for m.came[to][[2]int{int(api.Left), m.stage[to]}] && m.came[to][[2]int{int(api.Right), m.stage[to]}] {
			m.stage[to]++
		}
	}
	return ok
}

func (m *mill) do(x api.Move) bool {
	switch x.Kind {
	case api.Send:
		return m.send(x.A)
	case api.Hand:
		return m.hand(x.A, x.B, x.K)
	case api.Twice:
		return m.boxes[[2]int{x.A, x.B}].Double(x.K) == api.OK
	case api.Last:
		return m.boxes[[2]int{x.A, x.B}].Move(x.K) == api.OK
	}
	did := false
	for k := range m.out {
		did = m.send(k) || did
	}
	for from := range m.out {
		for to := range m.out {
			if b := m.boxes[[2]int{from, to}]; b.Len() > 0 {
				m.hand(from, to, b.Oldest())
				did = true
			}
		}
	}
	return did
}

// cells is what all places come to so far.
func (m *mill) cells() []api.Cell {
	var all []api.Cell
	p := m.p
	for k, stage := range m.stage {
		rows, cols := cutAt(p.A.Rows, p.R, k/p.C), cutAt(p.B.Cols, p.C, k%p.C)
		mid := [2]int{0, 0}
		if stage > 0 {
			mid[1] = m.stages[stage-1].To
		}
		for _, c := range cells(p.Ring, rowsCut(p.A, rows, mid), rowsCut(p.B, mid, cols), rowsCut(p.Mask, rows, cols)) {
			all = append(all, api.Cell{Row: rows[0] + c.Row, Col: cols[0] + c.Col, Val: c.Val})
		}
	}
	slices.SortFunc(all, func(a, b api.Cell) int { return (a.Row-b.Row)*5000 + a.Col - b.Col })
	return all
}

// ended tells whether all stages are reckoned.
func (m *mill) ended() bool { return slices.Min(m.stage) == len(m.stages) }

// compare holds a machine against its pattern.
func (m *mill) compare(t *testing.T, x *summa.Machine, whole bool) {
	want(t, "Ended", x.Ended(), m.ended())
	want(t, "Stages", x.Stages(), len(m.stages))
	sent := 0
	for k := range m.out {
		want(t, "Stage", x.Stage(k), m.stage[k])
		want(t, "Left", x.Left(k), len(m.out[k]))
		for to := range m.out {
			b := m.boxes[[2]int{k, to}]
			want(t, "Len", x.Len(k, to), b.Len())
			sent += b.Sent()
		}
	}
	want(t, "Sent", x.Sent(), sent)
	if whole {
		l := m.cells()
		want(t, "Cells", x.Cells(), l)
		right, re := gemm.Done(m.p.Ring, m.p.A.Rows, m.p.B.Cols, l)
		got, e := x.Result()
		want(t, "Result", got, right)
		want(t, "its error", e, re)
	}
}

func newMachine(t *testing.T, p api.Product) *summa.Machine {
	m, e := summa.New(p)
	if e != api.OK {
		t.Fatalf("New: %d", e)
	}
	return m
}

func TestP26_2(t *testing.T) {
	d := &dice{state: 2}
	ends := 0
	for i := 0; i < 40; i++ {
		for _, r := range allRings {
			p := d.product(r)
			m, x := newMill(p), newMachine(t, p)
			m.compare(t, x, true)
			for n := 0; n < 200; n++ {
				move := d.move(p.R * p.C)
				for tries := 0; tries < 9 && move.Kind == api.Hand && x.Len(move.A, move.B) == 0; tries++ {
					move.A, move.B = d.below(p.R*p.C), d.below(p.R*p.C)
				}
				want(t, "Do", x.Do(move), m.do(move))
				m.compare(t, x, n%20 == 0)
			}
			if m.ended() {
				ends++
			}
			for _, bad := range badMoves {
				want(t, "what can't be", x.Do(bad), false)
			}
			m.compare(t, x, true)
			if t.Failed() {
				return
			}
		}
	}
	want(t, "some end", ends > 10, true)
	x := newMachine(t, badProducts()[api.OK][0])
	for _, k := range []int{-1, 4, math.MaxInt, math.MinInt} {
		want(t, "no worker", x.Stage(k)+x.Left(k)+x.Len(0, k)+x.Len(k, 0), 0)
	}
	for _, k := range []int{4, 63} {
		for kind := api.Send; kind <= api.Last; kind++ {
			want(t, "no worker", x.Do(api.Move{Kind: kind, A: k}) || kind > api.Send && x.Do(api.Move{Kind: kind, B: k}), false)
		}
	}
	one := newMachine(t, api.Product{Ring: 1, A: full(1, 1), B: full(1, 1), Mask: full(1, 1), R: 1, C: 1, Room: 1})
	want(t, "one stage, a Left and a Right", [2]int{one.Stages(), one.Left(0)}, [2]int{1, 2})
	var none *summa.Machine
	got, e := none.Result()
	want(t, "Result of a nil machine", got, api.Rows{})
	want(t, "Result of a nil machine", e, api.ErrNone)
	if none.Do(api.Move{Kind: api.Fair}) || none.Ended() || none.Stages() != 0 || none.Stage(0) != 0 || none.Left(0) != 0 || none.Len(0, 0) != 0 || none.Sent() != 0 || len(none.Cells()) > 0 {
		t.Error("a nil machine has nothing")
	}
}

func TestP26_2_fair(t *testing.T) {
	d := &dice{state: 7}
	for i := 0; i < 40; i++ {
		p := d.product(allRings[d.below(5)])
		m, x := newMill(p), newMachine(t, p)
		for n := 0; n < 60; n++ {
			move := api.Move{Kind: api.Fair}
			if d.below(3) == 0 {
				move = d.move(p.R * p.C)
			}
			want(t, "Do", x.Do(move), m.do(move))
			m.compare(t, x, n%10 == 0)
		}
	}
}

func TestP26_3(t *testing.T) {
	d := &dice{state: 3}
	for i := 0; i < 60; i++ {
		for _, r := range allRings {
			p := d.product(r)
			if d.below(4) == 0 {
				p.A = rowsOf(p.A.Rows, p.A.Cols, d.triples(p.A.Rows, p.A.Cols))
			}
			l, windows := d.script(p.R*p.C, 60), d.below(20)
			m := newMill(p)
			for _, move := range l {
				m.do(move)
			}
			for n := 0; n < windows && !m.ended(); n++ {
				m.do(api.Move{Kind: api.Fair})
			}
			right, re := gemm.Done(r, p.A.Rows, p.B.Cols, m.cells())
			got, ended, e := summa.Run(p, l, windows)
			want(t, "Run", got, right)
			want(t, "whether it has ended", ended, m.ended())
			want(t, "its error", e, re)
		}
	}
	p := badProducts()[api.OK][0]
	long := make([]api.Move, api.MaxActs+1)
	fair := slices.Repeat([]api.Move{{Kind: api.Fair}}, api.MaxActs)
	for _, c := range []struct {
		l       []api.Move
		windows int
		e       api.Errno
	}{{long, -1, api.ErrLong}, {long[1:], -1, api.ErrKind}, {[]api.Move{{Kind: 1}, {Kind: 1, K: 64}}, -1, api.ErrKind}, {fair, -1, api.ErrRange}, {nil, 1<<20 + 1, api.ErrRange}, {nil, math.MinInt, api.ErrRange}, {fair, 1 << 20, api.OK}, {nil, 0, api.OK}} {
		m, ended, e := summa.Run(p, c.l, c.windows)
		want(t, "Run's error", e, c.e)
		if c.e != api.OK {
			want(t, "nothing beside it", m, api.Rows{})
			want(t, "nothing beside it", ended, false)
		}
	}
	huge := rowsOf(1, 1, []api.Triple{{Val: 1 << 40}})
	m, _, e := summa.Run(api.Product{Ring: api.PlusTimes, A: huge, B: huge, Mask: huge, R: 1, C: 1, Room: 1}, nil, 9)
	want(t, "over", e, api.ErrOver)
	want(t, "nothing beside it", m, api.Rows{})
}

func TestP26_4(t *testing.T) {
	d := &dice{state: 4}
	for i := 0; i < 60; i++ {
		for _, r := range allRings {
			p := d.product(r)
			x := newMachine(t, p)
			for _, move := range d.script(p.R*p.C, 200) {
				x.Do(move)
			}
			for n := 0; n < 10000 && !x.Ended(); n++ {
				x.Do(api.Move{Kind: api.Fair})
			}
			right, _ := gemm.Cells(r, p.A, p.B, p.Mask)
			want(t, "it ends", x.Ended(), true)
			want(t, "Cells", x.Cells(), right)
			l := x.Cells()
			for k := range l {
				l[k] = api.Cell{}
			}
			want(t, "what is told is the caller's", x.Cells(), right)
		}
	}
}

func TestP26_4_own(t *testing.T) {
	d := &dice{state: 9}
	for i := 0; i < 60; i++ {
		p := d.product(allRings[d.below(5)])
		right, _ := gemm.Cells(p.Ring, p.A, p.B, p.Mask)
		x := newMachine(t, p)
		for _, m := range []api.Rows{p.A, p.B, p.Mask} {
			scribble(reflect.ValueOf(m))
		}
		for range 300 {
			x.Do(api.Move{Kind: api.Fair})
		}
		want(t, "a product is not kept", x.Cells(), right)
	}
}

func TestP26_5(t *testing.T) {
	for r := 1; r <= 8; r++ {
		for c := 1; c <= 8; c++ {
			for _, n := range []int{0, 1, 7, 40} {
				p := api.Product{Ring: api.PlusTimes, A: full(2, n), B: full(n, 3), Mask: full(2, 3), R: r, C: c, Room: 1}
				x := newMachine(t, p)
				for range summa.Bound(p) {
					x.Do(api.Move{Kind: api.Fair})
				}
				want(t, "it ends by Bound windows", x.Ended(), true)
				_, ended, _ := summa.Run(p, nil, summa.Bound(p))
				want(t, "it ends by Bound windows", ended, true)
			}
		}
	}
}

func TestP26_6(t *testing.T) {
	d := &dice{state: 6}
	for i := 0; i < 60; i++ {
		p := d.product(allRings[d.below(5)])
		x := newMachine(t, p)
		for n := 0; n < 300; n++ {
			x.Do(d.move(p.R * p.C))
			for from := range p.R * p.C {
				for to := range p.R * p.C {
					want(t, "no box has more", x.Len(from, to) <= p.Room, true)
				}
			}
			want(t, "no more are sent", x.Sent() <= 2*p.R*p.C*x.Stages(), true)
		}
	}
}

func TestP26_7(t *testing.T) {
	d := &dice{state: 8}
	for i := 0; i < 60; i++ {
		p := d.product(allRings[d.below(5)])
		a, ended, e := summa.Run(p, d.script(9, 100), 200)
		p.R, p.C, p.Room = d.between(1, 8), d.between(1, 8), d.between(1, 9)
		b, too, f := summa.Run(p, d.script(9, 100), 400)
		want(t, "both ended", ended && too, true)
		want(t, "one Result", a, b)
		want(t, "one error", e, f)
	}
}

func TestSummaWhatever(t *testing.T) {
	whatever(t, 300, face{"summa.Check", summa.Check, false}, face{"summa.Bound", summa.Bound, false},
		face{"summa.Run", func(p api.Product, l []api.Move, windows int) (api.Rows, api.Errno) {
			m, _, e := summa.Run(p, l, windows%50)
			return m, e
		}, false},
		face{"summa.New and Do", func(p api.Product, x, y api.Move, k int) ([]api.Cell, int, api.Errno) {
			m, e := summa.New(p)
			if e != api.OK {
				return nil, 0, e
			}
			for range 9 {
				m.Do(x)
				m.Do(y)
				m.Do(api.Move{Kind: api.Fair})
			}
			return m.Cells(), m.Stage(k) + m.Left(k) + m.Len(k, k) + m.Sent(), api.OK
		}, false},
		face{"summa.Machine", func(x api.Move, k int) (int, bool) {
			m := &summa.Machine{}
			m.Result()
			return m.Stage(k) + m.Left(k) + m.Len(k, k) + m.Sent() + m.Stages() + len(m.Cells()), !m.Do(x)
		}, true})
}
