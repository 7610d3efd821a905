package summa

import (
	"slices"

	"fretwork/api"
	"fretwork/csr"
	"fretwork/gemm"
	"fretwork/part"
	"fretwork/play"
	"fretwork/post"
)

// brought is what a frame brings: a part along the row, or the column, of a stage.
type brought struct {
	kind  api.FrameKind
	stage int
}

// worker is one of a machine.
type worker struct {
	i, j  int
	mask  api.Rows
	out   []api.Frame // to be sent yet
	came  map[brought]api.Rows
	stage int
	cells []api.Cell
}

// worker is the worker of a number; nil, if there is none.
func (m *Machine) worker(k int) *worker {
	if m == nil || k < 0 || k >= len(m.workers) {
		return nil
	}
	return m.workers[k]
}

// box is the box between two workers; nil, if there is none.
func (m *Machine) box(from, to int) *post.Box {
	if m.worker(from) == nil || m.worker(to) == nil {
		return nil
	}
	if b := m.boxes[[2]int{from, to}]; b != nil {
		return b
	}
	b, _ := post.New(m.room) // the room was checked with the product
	return b
}

// keep notes a box into which a frame was put.
func (m *Machine) keep(from, to int, b *post.Box) {
	way := [2]int{from, to}
	if m.boxes[way] == nil {
		m.boxes[way] = b
		at, _ := slices.BinarySearchFunc(m.ways, way, func(a, b [2]int) int { return slices.Compare(a[:], b[:]) })
		m.ways = slices.Insert(m.ways, at, way)
	}
}

// Do does a move, and tells whether anything was done.
func (m *Machine) Do(x api.Move) bool {
	if m == nil || !play.Right(x) {
		return false
	}
	switch x.Kind {
	case api.Send:
		return m.pick(x.A)
	case api.Hand:
		return m.deliver(x.A, x.B, x.K)
	case api.Twice:
		return m.box(x.A, x.B).Double(x.K) == api.OK
	case api.Last:
		return m.box(x.A, x.B).Move(x.K) == api.OK
	}
	return m.window()
}

// pick lets a worker send its next frame.
func (m *Machine) pick(k int) bool {
	w := m.worker(k)
	if w == nil || len(w.out) == 0 {
		return false
	}
	f := w.out[0]
	b := m.box(k, f.To)
	if b.Send(f) != api.OK {
		return false
	}
	m.keep(k, f.To, b)
	w.out = w.out[1:]
	return true
}

// deliver takes a frame out of a box, and tells whether it was handed over.
func (m *Machine) deliver(from, to, k int) bool {
	f, ok, _ := m.box(from, to).Take(k)
	if ok {
		m.hear(m.workers[to], f)
	}
	return ok
}

// window lets each worker send, and hands the oldest frame of each box over; it tells whether it did anything.
func (m *Machine) window() bool {
	did := false
	for k := range m.workers {
		did = m.pick(k) || did
	}
	for _, way := range m.ways {
		b := m.boxes[way]
		if n := b.Len(); n > 0 {
			m.deliver(way[0], way[1], b.Oldest())
			did = did || b.Len() < n
		}
	}
	return did
}

// hear keeps what a frame brings, and reckons all stages that can be reckoned now.
func (m *Machine) hear(w *worker, f api.Frame) {
	s := m.stages[f.Round]
	rows, cols := part.Size(m.rows, m.r, w.i), s.To-s.From
	if f.Kind == api.Right {
		rows, cols = s.To-s.From, part.Size(m.cols, m.c, w.j)
	}
	w.came[brought{f.Kind, f.Round}], _ = csr.Of(m.ring, rows, cols, f.Triples) // triples of a matrix: each place once
	for m.reckon(w) {
	}
}

// reckon reckons a worker's next stage, if both of its parts came.
func (m *Machine) reckon(w *worker) bool {
	left, right := brought{api.Left, w.stage}, brought{api.Right, w.stage}
	a, is := w.came[left]
	b, too := w.came[right]
	if !is || !too {
		return false
	}
	delete(w.came, left)
	delete(w.came, right)
	cells, _ := gemm.Cells(m.ring, a, b, w.mask) // the parts fit, as the blocks do
	w.cells, _ = gemm.Merge(m.ring, w.cells, cells)
	w.stage++
	return true
}

// Len is how many frames a box has.
func (m *Machine) Len(from, to int) int { return m.box(from, to).Len() }

// Sent is how many frames were sent in all.
func (m *Machine) Sent() int {
	if m == nil {
		return 0
	}
	n := 0
	for _, b := range m.boxes {
		n += b.Sent()
	}
	return n
}
