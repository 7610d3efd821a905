package frame

import (
	"fretwork/api"
	"fretwork/octet"
)

// reader reads bytes, and gives up at the first thing that is wrong.
type reader struct{ *octet.Reader }

// giveUp is the panic of a reader.
type giveUp struct{ fault api.Fault }

// Decode is the frame of bytes.
func Decode(b []byte) (f api.Frame, fault api.Fault) {
	defer func() {
		if p := recover(); p != nil {
			g, ok := p.(giveUp)
			if !ok {
				panic(p)
			}
			fault = g.fault
		}
	}()
	r := reader{octet.Open(b)}
	read := r.frame()
	r.refuse(!r.End(), api.ErrSize, r.At())
	return read, api.Fault{}
}

// refuse gives up at a fault, if there is one, or if something is wrong.
func (r reader) refuse(wrong bool, e api.Errno, at int) {
	if wrong {
		r.Fail(e, at)
	}
	if f := r.Fault(); f.Errno != api.OK {
		panic(giveUp{f})
	}
}

// small reads a number of one byte, which must lie between two.
func (r reader) small(least, most int, e api.Errno) int {
	at := r.At()
	n := int(r.U8())
	r.refuse(n < least || n > most, e, at)
	return n
}

// number reads a number of four bytes, which must not be greater than the most.
func (r reader) number(most int, e api.Errno) int {
	at := r.At()
	n := int(r.U32())
	r.refuse(n > most, e, at)
	return n
}

// next reads a place below n, which must stand behind the one ahead.
func (r reader) next(last, n int) int {
	from := r.At()
	at := r.number(n-1, api.ErrRange)
	r.refuse(at <= last, api.ErrOrder, from)
	return at
}

// long reads a number of eight bytes.
func (r reader) long() int64 {
	n := r.I64()
	r.refuse(false, api.OK, 0)
	return n
}

func (r reader) frame() api.Frame {
	var f api.Frame
	f.Kind = api.FrameKind(r.small(int(api.Share), int(api.Right), api.ErrKind))
	f.From = r.small(0, api.MaxWorkers-1, api.ErrRange)
	f.To = r.small(0, api.MaxWorkers-1, api.ErrRange)
	f.Seq = r.number(api.MaxSeq, api.ErrRange)
	f.Round = r.number(api.MaxSupers, api.ErrRange)
	f.Over = r.small(0, 1, api.ErrValue) == 1
	f.N = r.long()
	f.Vec = r.vec()
	f.Sums = r.sums()
	f.Triples = r.triples()
	return f
}

func (r reader) vec() api.Vec {
	v := api.Vec{N: r.number(api.MaxVerts, api.ErrLong)}
	last := -1
	for range r.number(v.N, api.ErrLong) {
		last = r.next(last, v.N)
		v.Items = append(v.Items, api.Item{At: last, Val: r.long()})
	}
	return v
}

func (r reader) sums() []api.Sum {
	var l []api.Sum
	last := -1
	for range r.number(api.MaxVerts, api.ErrLong) {
		last = r.next(last, api.MaxVerts)
		high := r.long()
		low := r.long()
		l = append(l, api.Sum{At: last, Val: api.Wide{Hi: high, Lo: uint64(low)}})
	}
	return l
}

func (r reader) triples() []api.Triple {
	var l []api.Triple
	for range r.number(api.MaxEdges, api.ErrLong) {
		var t api.Triple
		t.Row = r.number(api.MaxVerts-1, api.ErrRange)
		t.Col = r.number(api.MaxVerts-1, api.ErrRange)
		t.Val = r.long()
		l = append(l, t)
	}
	return l
}
