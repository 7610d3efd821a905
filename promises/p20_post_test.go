package promises

import (
	"math"
	"reflect"
	"slices"
	"testing"

	"fretwork/api"
	"fretwork/frame"
	"fretwork/post"
)

func TestP20_1(t *testing.T) {
	for _, room := range []int{math.MinInt, -1, 0, 65, math.MaxInt} {
		b, e := post.New(room)
		want(t, "New's error", e, api.ErrRange)
		want(t, "nothing beside it", b == nil, true)
	}
	for _, room := range []int{1, 2, 64} {
		b, e := post.New(room)
		want(t, "New's error", e, api.OK)
		if b.Len() != 0 || b.Room() != room || b.Sent() != 0 || b.Taken() != 0 || b.Oldest() != -1 || len(b.Frames()) > 0 {
			t.Error("a box is empty at first")
		}
		for i := range room {
			want(t, "Send", b.Send(api.Frame{Kind: 3, Seq: 99, N: int64(i)}), api.OK)
		}
		want(t, "Send into a full box", b.Send(api.Frame{}), api.ErrFull)
		want(t, "Double in a full box", b.Double(0), api.ErrFull)
		want(t, "Double of none in a full box", b.Double(room), api.ErrRange)
		want(t, "Move in a full box", b.Move(0), api.OK)
		want(t, "Len", b.Len(), room)
		want(t, "Sent", b.Sent(), room)
		for _, x := range b.Frames() {
			want(t, "a frame's number", x.Seq, int(x.N))
		}
	}
}

// chest is how a box behaves, by other means.
type chest struct {
	room        int
	l           []api.Frame
	sent, taken int
}

// handle does one thing to a box, and to its pattern; what was handed over is told.
func handle(t *testing.T, d *dice, b *post.Box, c *chest) (api.Frame, bool) {
	k := d.below(6) - 1
	if len(c.l) > 0 && d.below(4) > 0 {
		k = d.below(len(c.l))
	}
	in := k >= 0 && k < len(c.l)
	e := api.OK
	switch {
	case !in:
		e = api.ErrRange
	case len(c.l) == c.room:
		e = api.ErrFull
	}
	switch d.below(4) {
	case 0:
		f := d.frame()
		e = api.OK
		if len(c.l) == c.room {
			e = api.ErrFull
		} else {
			own := f
			own.Seq = c.sent
			c.l = append(c.l, own)
			c.sent++
		}
		want(t, "Send", b.Send(f), e)
	case 1:
		if e == api.OK {
			c.l = append(c.l, c.l[k])
		}
		want(t, "Double", b.Double(k), e)
	case 2:
		if e != api.ErrRange {
			e = api.OK
			f := c.l[k]
			c.l = append(slices.Delete(c.l, k, k+1), f)
		}
		want(t, "Move", b.Move(k), e)
	case 3:
		return grab(t, b, c, k)
	}
	return api.Frame{}, false
}

// grab takes a frame.
func grab(t *testing.T, b *post.Box, c *chest, k int) (api.Frame, bool) {
	var right api.Frame
	is, re := false, api.ErrRange
	if k >= 0 && k < len(c.l) {
		re = api.OK
		if f := c.l[k]; f.Seq <= c.taken {
			if f.Seq == c.taken {
				right, is = f, true
				c.taken++
			}
			c.l = slices.Delete(c.l, k, k+1)
		}
	}
	f, ok, e := b.Take(k)
	want(t, "Take", f, right)
	want(t, "whether it is handed over", ok, is)
	want(t, "Take's error", e, re)
	return f, ok
}

func TestP20_2(t *testing.T) {
	d := &dice{state: 2}
	for i := 0; i < 300; i++ {
		c := &chest{room: d.between(1, 6)}
		b, _ := post.New(c.room)
		for n := 0; n < 60; n++ {
			handle(t, d, b, c)
			oldest := -1
			for i, f := range c.l {
				if oldest < 0 || f.Seq < c.l[oldest].Seq {
					oldest = i
				}
			}
			want(t, "Oldest", b.Oldest(), oldest)
			want(t, "Len", b.Len(), len(c.l))
			want(t, "Room", b.Room(), c.room)
			want(t, "Sent", b.Sent(), c.sent)
			want(t, "Taken", b.Taken(), c.taken)
			want(t, "Frames", b.Frames(), c.l)
		}
	}
	b, _ := post.New(2)
	b.Send(api.Frame{N: 1})
	b.Send(api.Frame{N: 2})
	f, ok, e := b.Take(1)
	want(t, "the second one first", ok || e != api.OK || f.N != 0, false)
	f, ok, _ = b.Take(0)
	want(t, "the first one alone", ok && f.N == 1 && b.Taken() == 1 && b.Len() == 1, true)
	var none *post.Box
	f, ok, e = none.Take(0)
	want(t, "Take of a nil box", f, api.Frame{})
	want(t, "Take of a nil box", ok, false)
	want(t, "Take of a nil box", e, api.ErrNone)
	if none.Send(api.Frame{}) != api.ErrNone || none.Double(0) != api.ErrNone || none.Move(-1) != api.ErrNone || none.Oldest() != -1 || none.Len() != 0 || none.Room() != 0 || none.Sent() != 0 || none.Taken() != 0 || len(none.Frames()) > 0 {
		t.Error("a nil box has nothing")
	}
}

// scribble writes over all lists of a value.
func scribble(v reflect.Value) {
	switch v.Kind() {
	case reflect.Struct:
		for i := 0; i < v.NumField(); i++ {
			scribble(v.Field(i))
		}
	case reflect.Slice:
		for i := 0; i < v.Len(); i++ {
			scribble(v.Index(i))
			if v.Index(i).CanSet() {
				v.Index(i).SetZero()
			}
		}
	}
}

func TestP20_2_own(t *testing.T) {
	d := &dice{state: 9}
	for i := 0; i < 100; i++ {
		b, _ := post.New(4)
		f := d.frame()
		kept := copied(reflect.ValueOf(f)).Interface().(api.Frame)
		kept.Seq = 0
		b.Send(f)
		scribble(reflect.ValueOf(f))
		b.Double(0)
		l := b.Frames()
		want(t, "what was sent is the box's own", l, []api.Frame{kept, kept})
		scribble(reflect.ValueOf(l))
		x, _, _ := b.Take(0)
		want(t, "what is told is the caller's", x, kept)
		scribble(reflect.ValueOf(x))
		want(t, "what is handed over is the caller's", b.Frames(), []api.Frame{kept})
	}
}

func TestP20_3(t *testing.T) {
	d := &dice{state: 3}
	for i := 0; i < 300; i++ {
		c := &chest{room: d.between(1, 6)}
		b, _ := post.New(c.room)
		next := 0
		for n := 0; n < 80; n++ {
			if f, ok := handle(t, d, b, c); ok {
				want(t, "one behind the other", f.Seq, next)
				next++
			}
		}
		want(t, "all that was handed over", b.Taken(), next)
	}
}

func TestP20_4(t *testing.T) {
	d := &dice{state: 4}
	for i := 0; i < 300; i++ {
		c := &chest{room: d.between(1, 3)}
		b, _ := post.New(c.room)
		for n := 0; n < 60; n++ {
			ahead := b.Frames()
			if b.Send(api.Frame{N: int64(n)}) == api.ErrFull || len(ahead) > 0 && b.Double(0) == api.ErrFull {
				want(t, "what is full loses nothing", b.Frames()[:len(ahead)], ahead)
			}
			want(t, "never more than its room", b.Len() <= b.Room(), true)
			if d.coin() {
				b.Take(b.Oldest())
			}
		}
	}
}

func TestP20_5(t *testing.T) {
	d := &dice{state: 5}
	for i := 0; i < 300; i++ {
		c := &chest{room: d.between(1, 6)}
		b, _ := post.New(c.room)
		for n := 0; n < 40; n++ {
			handle(t, d, b, c)
		}
		for n := 0; b.Len() > 0; n++ {
			if n > 2*api.MaxBox {
				t.Fatal("it does not come")
			}
			if f, ok, _ := b.Take(b.Oldest()); ok {
				want(t, "the next one", f.Seq, b.Taken()-1)
			}
		}
		want(t, "all is handed over", b.Taken(), b.Sent())
	}
}

func TestPostWhatever(t *testing.T) {
	whatever(t, 300, face{"post.New and more", func(room int, f, g api.Frame, k, m int) ([]api.Frame, api.Frame, api.Frame, int, api.Errno) {
		b, e := post.New(room)
		if e != api.OK {
			return nil, api.Frame{}, api.Frame{}, 0, e
		}
		b.Send(f)
		b.Double(0)
		b.Send(g)
		b.Move(k)
		b.Double(m)
		x, _, _ := b.Take(k)
		y, _, _ := b.Take(m)
		return b.Frames(), x, y, b.Oldest(), api.OK
	}, false}, face{"post.Box", func(f api.Frame, k int) (api.Errno, int, bool) {
		b := &post.Box{}
		b.Send(f)
		b.Double(k)
		b.Move(k)
		_, ok, e := b.Take(k)
		return e, b.Len() + b.Room() + b.Sent() + b.Taken(), ok
	}, false}, face{"frame.Right of what was sent", func(f api.Frame) api.Errno {
		b, _ := post.New(3)
		b.Send(f)
		x, _, _ := b.Take(0)
		return frame.Right(x)
	}, false})
}
