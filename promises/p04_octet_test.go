package promises

import (
	"encoding/binary"
	"math"
	"testing"

	"fretwork/api"
	"fretwork/octet"
)

// bytes is so many bytes at most.
func (d *dice) bytes(most int) []byte {
	b := make([]byte, d.below(most+1))
	for i := range b {
		b[i] = byte(d.word())
	}
	return b
}

func TestP4_1(t *testing.T) {
	d := &dice{}
	for i := 0; i < 1000; i++ {
		n := d.odd()
		want(t, "Put8", octet.Put8(uint8(n)), []byte{byte(n)})
		want(t, "Put32", octet.Put32(uint32(n)), binary.LittleEndian.AppendUint32(nil, uint32(n)))
		want(t, "Put64", octet.Put64(n), binary.LittleEndian.AppendUint64(nil, uint64(n)))
	}
	want(t, "258", octet.Put32(258), []byte{2, 1, 0, 0})
	want(t, "-1", octet.Put64(-1), []byte{255, 255, 255, 255, 255, 255, 255, 255})
	b := []byte{1, 2, 3}
	r := octet.Open(b)
	if r.At() != 0 || r.Left() != 3 || r.End() || r.Fault() != (api.Fault{}) {
		t.Error("a reader stands at 0")
	}
	b[0] = 9
	if r.U8() != 1 || r.At() != 1 || r.Left() != 2 {
		t.Error("a reader reads what it was given")
	}
	if none := octet.Open(nil); none.Left() != 0 || none.At() != 0 || !none.End() {
		t.Error("a reader of nothing is at its end")
	}
}

// pattern says how a reader behaves, by other means.
type pattern struct {
	b     []byte
	at    int
	fault api.Fault
}

func (p *pattern) take(n int) []byte {
	switch {
	case p.fault.Errno != api.OK:
	case n < 0:
		p.fault = api.Fault{Errno: api.ErrRange, At: p.at}
	case n > len(p.b)-p.at:
		p.fault = api.Fault{Errno: api.ErrShort, At: len(p.b)}
	default:
		p.at += n
		return p.b[p.at-n : p.at]
	}
	return nil
}

func (p *pattern) number(n int) uint64 {
	var all [8]byte
	copy(all[:], p.take(n))
	return binary.LittleEndian.Uint64(all[:])
}

// act does one thing to a reader, and to its pattern.
func act(t *testing.T, d *dice, r *octet.Reader, p *pattern) {
	switch d.below(8) {
	case 0:
		want(t, "U8", r.U8(), uint8(p.number(1)))
	case 1:
		want(t, "U32", r.U32(), uint32(p.number(4)))
	case 2:
		want(t, "I64", r.I64(), int64(p.number(8)))
	case 3:
		n := []int{-1, math.MinInt, math.MaxInt, 100, 1 << 40}[d.below(5)]
		if d.below(3) > 0 {
			n = 0
		}
		want(t, "Take", r.Take(n), p.take(n))
	case 4, 5:
		n := d.below(5)
		want(t, "Take", r.Take(n), p.take(n))
	case 6:
		r.Fail(api.OK, 7)
	case 7:
		if d.below(4) == 0 {
			e, at := api.Errno(1+d.below(12)), int(d.odd())
			r.Fail(e, at)
			if p.fault.Errno == api.OK {
				p.fault = api.Fault{Errno: e, At: at}
			}
		}
	}
}

func TestP4_2(t *testing.T) {
	d := &dice{state: 2}
	for i := 0; i < 2000; i++ {
		b := d.bytes(30)
		r, p := octet.Open(b), &pattern{b: b}
		for k := 0; k < 12; k++ {
			act(t, d, r, p)
			left := len(p.b) - p.at
			if p.fault.Errno != api.OK {
				left = 0
			}
			want(t, "At", r.At(), p.at)
			want(t, "Left", r.Left(), left)
			want(t, "Fault", r.Fault(), p.fault)
			want(t, "End", r.End(), p.fault.Errno == api.OK && left == 0)
		}
	}
	r := octet.Open([]byte{1, 2, 3})
	if n := r.U32(); n != 0 || r.Fault() != (api.Fault{Errno: api.ErrShort, At: 3}) || r.At() != 0 {
		t.Error("three bytes are too short")
	}
	r = octet.Open([]byte{1, 2, 3})
	r.U8()
	if b := r.Take(-1); len(b) != 0 || r.Fault() != (api.Fault{Errno: api.ErrRange, At: 1}) || r.At() != 1 || r.U8() != 0 {
		t.Error("less than no bytes")
	}
	var none *octet.Reader
	none.Fail(api.ErrForm, 3)
	if none.At() != 0 || none.Left() != 0 || none.Fault() != (api.Fault{}) || len(none.Take(1)) != 0 || none.U8() != 0 || none.U32() != 0 || none.I64() != 0 || none.End() {
		t.Error("a nil reader has nothing")
	}
}

func TestP4_2_own(t *testing.T) {
	r := octet.Open([]byte{1, 2, 3, 4})
	b := r.Take(2)
	for i := range b[:cap(b)] {
		b[:cap(b)][i] = 9
	}
	b = append(b, 9, 9)
	if r.U8() != 3 || r.U8() != 4 || len(b) != 4 {
		t.Error("what was taken is the caller's")
	}
}

func TestP4_3(t *testing.T) {
	d := &dice{state: 3}
	for i := 0; i < 500; i++ {
		ahead, behind := d.bytes(9), d.bytes(9)
		x, y, z := uint8(d.odd()), uint32(d.odd()), d.odd()
		b := append([]byte{}, ahead...)
		for _, more := range [][]byte{octet.Put8(x), octet.Put32(y), octet.Put64(z), behind} {
			b = append(b, more...)
		}
		r := octet.Open(b)
		want(t, "ahead", r.Take(len(ahead)), ahead)
		want(t, "U8", r.U8(), x)
		want(t, "U32", r.U32(), y)
		want(t, "I64", r.I64(), z)
		want(t, "behind", r.Take(len(behind)), behind)
		want(t, "End", r.End(), true)
	}
}

func TestP4_4(t *testing.T) {
	r := octet.Open([]byte{1, 2, 3})
	r.U8()
	r.Fail(api.ErrKind, 40)
	r.Fail(api.ErrOrder, 41)
	r.Take(100)
	r.Take(-1)
	if r.Fault() != (api.Fault{Errno: api.ErrKind, At: 40}) || r.At() != 1 || r.Left() != 0 || r.End() {
		t.Error("a fault stays, and so does the place")
	}
}

func TestOctetWhatever(t *testing.T) {
	whatever(t, 200, face{"octet.Put8", octet.Put8, false}, face{"octet.Put32", octet.Put32, false}, face{"octet.Put64", octet.Put64, false},
		face{"octet.Open and Take", func(b []byte, n, m int) ([]byte, []byte, api.Fault, bool) {
			r := octet.Open(b)
			x, y := r.Take(n), r.Take(m)
			if r.Fault().Errno != api.OK {
				x, y = nil, nil
			}
			return x, y, r.Fault(), r.Fault().Errno == api.OK
		}, false},
		face{"octet.Open and read", func(b []byte) (uint8, uint32, int64) {
			r := octet.Open(b)
			return r.U8(), r.U32(), r.I64()
		}, false})
}
