package promises

import (
	"encoding/binary"
	"math"
	"reflect"
	"slices"
	"testing"

	"fretwork/api"
	"fretwork/frame"
)

// frame is a frame that can be.
func (d *dice) frame() api.Frame {
	f := api.Frame{Kind: api.FrameKind(d.between(1, 7)), From: d.below(64), To: d.below(64), Seq: d.below(1 << 31), Round: d.below(8193), N: d.odd(), Over: d.coin()}
	f.Vec = d.vec(api.PlusTimes, d.below(6))
	f.Sums = d.sumsOf(d.below(5))
	f.Triples = d.triples(2, 2)
	if len(f.Triples) > 1 && d.coin() {
		slices.Reverse(f.Triples)
	}
	return f
}

func frameBytes(f api.Frame) []byte {
	le := binary.LittleEndian
	b := []byte{byte(f.Kind), byte(f.From), byte(f.To)}
	b = words32(b, f.Seq, f.Round)
	if f.Over {
		b = append(b, 1)
	} else {
		b = append(b, 0)
	}
	b = le.AppendUint64(b, uint64(f.N))
	b = words32(b, f.Vec.N, len(f.Vec.Items))
	for _, x := range f.Vec.Items {
		b = le.AppendUint64(words32(b, x.At), uint64(x.Val))
	}
	b = words32(b, len(f.Sums))
	for _, s := range f.Sums {
		b = le.AppendUint64(le.AppendUint64(words32(b, s.At), uint64(s.Val.Hi)), s.Val.Lo)
	}
	b = words32(b, len(f.Triples))
	for _, x := range f.Triples {
		b = le.AppendUint64(words32(b, x.Row, x.Col), uint64(x.Val))
	}
	return b
}

func init() {
	maker((*dice).frame)
	bytesOfAll = append(bytesOfAll, func(d *dice) []byte { return frameBytes(d.frame()) })
}

// frameWith is a frame that can be, with one thing changed.
func frameWith(change func(f *api.Frame)) api.Frame {
	f := api.Frame{Kind: api.Vote, From: 1, To: 2, Seq: 3, Round: 4, N: 5, Vec: api.Vec{N: 3, Items: []api.Item{{At: 0, Val: 6}, {At: 2, Val: 7}}}}
	f.Sums = []api.Sum{{At: 1, Val: api.Wide{Hi: -1, Lo: 8}}, {At: 5, Val: api.Wide{Hi: 9}}}
	f.Triples = []api.Triple{{Row: 3, Col: 4, Val: -10}}
	change(&f)
	return f
}

func TestP19_1(t *testing.T) {
	d := &dice{}
	for i := 0; i < 1000; i++ {
		f := d.frame()
		want(t, "Right", frame.Right(f), api.OK)
		b, e := frame.Encode(f)
		want(t, "Encode", b, frameBytes(f))
		want(t, "its error", e, api.OK)
	}
	long := make([]api.Triple, api.MaxEdges+1)
	for i, c := range []struct {
		change func(f *api.Frame)
		e      api.Errno
	}{
		{func(f *api.Frame) {}, api.OK}, {func(f *api.Frame) { *f = api.Frame{Kind: 1} }, api.OK},
		{func(f *api.Frame) { f.Kind, f.From = 0, -1 }, api.ErrKind}, {func(f *api.Frame) { f.Kind = 8 }, api.ErrKind}, {func(f *api.Frame) { f.Kind = -1 }, api.ErrKind}, {func(f *api.Frame) { f.Kind = 7 }, api.OK}, {func(f *api.Frame) { f.Kind = 257 }, api.ErrKind},
		{func(f *api.Frame) { f.From = -1 }, api.ErrRange}, {func(f *api.Frame) { f.From, f.Vec.N = 64, -1 }, api.ErrRange}, {func(f *api.Frame) { f.From = 63 }, api.OK}, {func(f *api.Frame) { f.From = math.MaxInt }, api.ErrRange},
		{func(f *api.Frame) { f.To = -1 }, api.ErrRange}, {func(f *api.Frame) { f.To, f.Vec.N = 64, -1 }, api.ErrRange}, {func(f *api.Frame) { f.To = 63 }, api.OK},
		{func(f *api.Frame) { f.Seq, f.Vec.N = -1, -1 }, api.ErrRange}, {func(f *api.Frame) { f.Seq, f.Vec.N = 1<<31, -1 }, api.ErrRange}, {func(f *api.Frame) { f.Seq = 1<<31 - 1 }, api.OK},
		{func(f *api.Frame) { f.Round, f.Vec.N = -1, -1 }, api.ErrRange}, {func(f *api.Frame) { f.Round, f.Vec.N = 8193, -1 }, api.ErrRange}, {func(f *api.Frame) { f.Round = 8192 }, api.OK},
		{func(f *api.Frame) { f.Vec.N, f.Sums[0].At = 2, -1 }, api.ErrValue}, {func(f *api.Frame) { f.Vec.Items[0].At = 2 }, api.ErrValue}, {func(f *api.Frame) { f.Vec.N = 4097 }, api.ErrValue},
		{func(f *api.Frame) { f.Sums[0].At = -1 }, api.ErrRange}, {func(f *api.Frame) { f.Sums[1].At, f.Triples = 4096, long }, api.ErrRange}, {func(f *api.Frame) { f.Sums[1].At = 4095 }, api.OK}, {func(f *api.Frame) { f.Sums = append(f.Sums, api.Sum{At: 2}, api.Sum{At: -1}) }, api.ErrRange},
		{func(f *api.Frame) { f.Sums[1].At, f.Triples = 1, long }, api.ErrOrder}, {func(f *api.Frame) { f.Sums[1].At = 0 }, api.ErrOrder},
		{func(f *api.Frame) { f.Triples = append(slices.Clone(long), api.Triple{Row: -1}) }, api.ErrLong}, {func(f *api.Frame) { f.Triples = long }, api.ErrLong}, {func(f *api.Frame) { f.Triples = long[1:] }, api.OK},
		{func(f *api.Frame) { f.Triples[0].Row = -1 }, api.ErrRange}, {func(f *api.Frame) { f.Triples[0].Row = 4096 }, api.ErrRange}, {func(f *api.Frame) { f.Triples[0].Col = -1 }, api.ErrRange}, {func(f *api.Frame) { f.Triples[0].Col = 4096 }, api.ErrRange}, {func(f *api.Frame) { f.Triples[0] = api.Triple{Row: 4095, Col: 4095} }, api.OK},
	} {
		f := frameWith(c.change)
		if got := frame.Right(f); got != c.e {
			t.Errorf("Right of the case %d: %d, not %d", i, got, c.e)
		}
		b, e := frame.Encode(f)
		want(t, "Encode's error", e, c.e)
		want(t, "nothing beside it", e == api.OK || len(b) == 0, true)
	}
}

func TestP19_2(t *testing.T) {
	d := &dice{state: 2}
	for i := 0; i < 1000; i++ {
		f := d.frame()
		got, fault := frame.Decode(frameBytes(f))
		want(t, "Decode", got, f)
		want(t, "its fault", fault, api.Fault{})
		want(t, "Size", frame.Size(f), len(f.Vec.Items)+len(f.Sums)+len(f.Triples))
	}
	b := frameBytes(frameWith(func(*api.Frame) {}))
	le := binary.LittleEndian
	one := le.AppendUint64(nil, 1)
	for i, c := range []struct {
		b []byte
		f api.Fault
	}{
		{nil, api.Fault{Errno: api.ErrShort}},
		{changed(b, 0, 0), api.Fault{Errno: api.ErrKind}}, {changed(b, 0, 8), api.Fault{Errno: api.ErrKind}}, {[]byte{0}, api.Fault{Errno: api.ErrKind}},
		{changed(b, 1, 64), api.Fault{Errno: api.ErrRange, At: 1}}, {changed(b, 1, 64)[:2], api.Fault{Errno: api.ErrRange, At: 1}}, {changed(b, 2, 64), api.Fault{Errno: api.ErrRange, At: 2}}, {changed(b, 2, 255), api.Fault{Errno: api.ErrRange, At: 2}},
		{changed(b, 3, words32(nil, 1<<31)...), api.Fault{Errno: api.ErrRange, At: 3}}, {changed(b, 7, words32(nil, 8193)...), api.Fault{Errno: api.ErrRange, At: 7}},
		{changed(b, 11, 2), api.Fault{Errno: api.ErrValue, At: 11}}, {changed(b, 11, 2)[:12], api.Fault{Errno: api.ErrValue, At: 11}},
		{changed(b, 20, words32(nil, 4097)...), api.Fault{Errno: api.ErrLong, At: 20}}, {changed(b, 24, 4), api.Fault{Errno: api.ErrLong, At: 24}}, {changed(b, 20, 1), api.Fault{Errno: api.ErrLong, At: 24}},
		{changed(b, 28, 3), api.Fault{Errno: api.ErrRange, At: 28}}, {changed(b, 40, 3), api.Fault{Errno: api.ErrRange, At: 40}}, {changed(b, 40, 0), api.Fault{Errno: api.ErrOrder, At: 40}}, {changed(b, 28, 2), api.Fault{Errno: api.ErrOrder, At: 40}}, {changed(b, 40, 0)[:44], api.Fault{Errno: api.ErrOrder, At: 40}},
		{changed(b, 52, words32(nil, 4097)...), api.Fault{Errno: api.ErrLong, At: 52}}, {changed(b, 56, words32(nil, 4096)...), api.Fault{Errno: api.ErrRange, At: 56}}, {changed(b, 76, words32(nil, 4096)...), api.Fault{Errno: api.ErrRange, At: 76}}, {changed(b, 76, 1), api.Fault{Errno: api.ErrOrder, At: 76}}, {changed(b, 76, 0), api.Fault{Errno: api.ErrOrder, At: 76}},
		{changed(b, 96, words32(nil, 65537)...), api.Fault{Errno: api.ErrLong, At: 96}}, {changed(b, 100, words32(nil, 4096)...), api.Fault{Errno: api.ErrRange, At: 100}}, {changed(b, 104, words32(nil, 4096)...), api.Fault{Errno: api.ErrRange, At: 104}},
		{append(slices.Clone(b), 0), api.Fault{Errno: api.ErrSize, At: 116}},
		{changed(b, 52, words32(nil, 4096)...), api.Fault{Errno: api.ErrOrder, At: 96}},
		{append(words32(slices.Clone(b[:24]), 1, 2), one...), api.Fault{Errno: api.ErrShort, At: 40}},
	} {
		f, fault := frame.Decode(c.b)
		if fault != c.f {
			t.Errorf("Decode of the case %d: %v, not %v", i, fault, c.f)
		}
		want(t, "nothing beside a fault", f, api.Frame{})
	}
	most := frameWith(func(f *api.Frame) {
		f.Kind, f.From, f.To, f.Seq, f.Round, f.Over, f.Vec.N = 7, 63, 63, 1<<31-1, 8192, true, 4096
		f.Sums[1].At, f.Triples[0].Row, f.Triples[0].Col = 4095, 4095, 4095
		f.Vec.Items[1].At = 4095
	})
	got, fault := frame.Decode(frameBytes(most))
	want(t, "the most there may be", got, most)
	want(t, "the most there may be", fault, api.Fault{})
	crowd := api.Frame{Kind: 6, Triples: make([]api.Triple, api.MaxEdges)}
	for i := range 4096 {
		crowd.Sums = append(crowd.Sums, api.Sum{At: i})
		crowd.Vec.Items = append(crowd.Vec.Items, api.Item{At: i})
	}
	crowd.Vec.N = 4096
	got, fault = frame.Decode(frameBytes(crowd))
	want(t, "as many as there may be", frame.Same(got, crowd), true)
	want(t, "as many as there may be", fault, api.Fault{})
}

func TestP19_2_same(t *testing.T) {
	d := &dice{state: 3}
	a := frameWith(func(*api.Frame) {})
	want(t, "Same", frame.Same(a, frameWith(func(*api.Frame) {})), true)
	want(t, "Same of no lists", frame.Same(api.Frame{}, api.Frame{Sums: []api.Sum{}, Triples: []api.Triple{}, Vec: api.Vec{Items: []api.Item{}}}), true)
	for i, change := range []func(f *api.Frame){
		func(f *api.Frame) { f.Kind++ }, func(f *api.Frame) { f.From++ }, func(f *api.Frame) { f.To++ }, func(f *api.Frame) { f.Seq++ }, func(f *api.Frame) { f.Round++ }, func(f *api.Frame) { f.N++ }, func(f *api.Frame) { f.Over = true },
		func(f *api.Frame) { f.Vec.N++ }, func(f *api.Frame) { f.Vec.Items[1].Val++ }, func(f *api.Frame) { f.Vec.Items[0].At++ }, func(f *api.Frame) { f.Vec.Items = f.Vec.Items[:1] },
		func(f *api.Frame) { f.Sums[0].At = 0 }, func(f *api.Frame) { f.Sums[0].Val.Hi++ }, func(f *api.Frame) { f.Sums[1].Val.Lo++ }, func(f *api.Frame) { f.Sums = nil },
		func(f *api.Frame) { f.Triples[0].Row++ }, func(f *api.Frame) { f.Triples[0].Col++ }, func(f *api.Frame) { f.Triples[0].Val++ }, func(f *api.Frame) { f.Triples = append(f.Triples, f.Triples[0]) },
	} {
		b := frameWith(change)
		if frame.Same(a, b) || frame.Same(b, a) {
			t.Errorf("Same of the case %d", i)
		}
	}
	for i := 0; i < 300; i++ {
		v := reflect.ValueOf(d.frame())
		want(t, "Same of a copy", frame.Same(v.Interface().(api.Frame), copied(v).Interface().(api.Frame)), true)
	}
}

func TestP19_3(t *testing.T) {
	d := &dice{state: 4}
	told := 0
	for i := 0; i < 3000; i++ {
		f := d.frame()
		b, _ := frame.Encode(f)
		got, fault := frame.Decode(b)
		want(t, "Decode of Encode", got, f)
		want(t, "its fault", fault, api.Fault{})
		b[d.below(len(b))] = byte(d.below(4))
		if got, fault = frame.Decode(b); fault.Errno == api.OK {
			told++
			again, e := frame.Encode(got)
			want(t, "Encode of Decode", again, b)
			want(t, "its error", e, api.OK)
		}
	}
	want(t, "some are told", told > 100, true)
}

func TestP19_4(t *testing.T) {
	d := &dice{state: 5}
	for i := 0; i < 50; i++ {
		b := frameBytes(d.frame())
		for n := range b {
			_, fault := frame.Decode(b[:n])
			want(t, "bytes that are cut", fault, api.Fault{Errno: api.ErrShort, At: n})
		}
	}
}

func TestFrameWhatever(t *testing.T) {
	whatever(t, 600, face{"frame.Right", frame.Right, false}, face{"frame.Encode", frame.Encode, false}, face{"frame.Decode", frame.Decode, false},
		face{"frame.Size", frame.Size, false}, face{"frame.Same", frame.Same, false})
}
