package loader

import (
	"fretwork/api"
	"fretwork/edges"
	"fretwork/octet"
)

// reader reads bytes, and gives up at the first thing that is wrong.
type reader struct{ *octet.Reader }

// giveUp is the panic of a reader.
type giveUp struct{ fault api.Fault }

// guarded is what is read of bytes, all of them, or where they are wrong.
func guarded[T any](b []byte, of func(reader) T) (out T, f api.Fault) {
	defer func() {
		if p := recover(); p != nil {
			g, ok := p.(giveUp)
			if !ok {
				panic(p)
			}
			f = g.fault
		}
	}()
	r := reader{octet.Open(b)}
	read := of(r)
	r.refuse(!r.End(), api.ErrSize, r.At())
	return read, api.Fault{}
}

// refuse gives up at a fault, if there is one, or if something is wrong.
func (r reader) refuse(wrong bool, e api.Errno, at int) {
	if wrong {
		r.Fail(e, at)
	}
	if f := r.Fault(); f.Errno != api.OK {
		panic(giveUp{f})
	}
}

// magic reads the first bytes, which must be these.
func (r reader) magic(right string) {
	got := string(r.Take(len(right)))
	r.refuse(got != right, api.ErrMagic, 0)
}

// number reads a number that must not be greater than the most.
func (r reader) number(most int, e api.Errno) int {
	at := r.At()
	n := int(r.U32())
	r.refuse(n > most, e, at)
	return n
}

// list reads so many members.
func list[T any](n int, member func(i int) T) []T {
	var l []T
	for i := range n {
		l = append(l, member(i))
	}
	return l
}

// graph reads a graph.
func graph(r reader) api.Graph {
	r.magic(graphMagic)
	weighty := r.U8()
	r.refuse(weighty > 1, api.ErrKind, len(graphMagic))
	n := r.number(api.MaxVerts, api.ErrLong)
	many := r.number(api.MaxEdges, api.ErrLong)
	l := list(many, func(int) api.Edge {
		e := api.Edge{W: 1}
		e.From = r.number(n-1, api.ErrRange)
		e.To = r.number(n-1, api.ErrRange)
		if weighty == 1 {
			e.W = int64(r.number(api.MaxWeight, api.ErrValue))
		}
		return e
	})
	return edges.Canon(api.Graph{N: n, Edges: l})
}

// triples is a matrix as it is read.
type triples struct {
	rows, cols int
	l          []api.Triple
}

// matrix reads a matrix.
func matrix(r reader) triples {
	r.magic(matrixMagic)
	var m triples
	m.rows = r.number(api.MaxVerts, api.ErrLong)
	m.cols = r.number(api.MaxVerts, api.ErrLong)
	many := r.number(api.MaxEdges, api.ErrLong)
	var last api.Triple
	m.l = list(many, func(i int) api.Triple {
		at := r.At()
		var t api.Triple
		t.Row = r.number(m.rows-1, api.ErrRange)
		t.Col = r.number(m.cols-1, api.ErrRange)
		t.Val = r.I64()
		r.refuse(i > 0 && !behind(last, t), api.ErrOrder, at)
		last = t
		return t
	})
	return m
}
