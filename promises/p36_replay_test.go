package promises

import (
	"slices"
	"testing"

	"fretwork/api"
	"fretwork/grid"
	"fretwork/play"
	"fretwork/replay"
)

// moveBytes is moves' bytes, by other means.
func moveBytes(l []api.Move) []byte {
	b := words32([]byte("FRS1"), len(l))
	for _, m := range l {
		b = append(b, byte(m.Kind), byte(m.A), byte(m.B), byte(m.K))
	}
	return b
}

func init() {
	bytesOfAll = append(bytesOfAll, func(d *dice) []byte { return moveBytes(d.script(64, 6)) })
}

func TestP36_1(t *testing.T) {
	d := &dice{}
	for i := 0; i < 500; i++ {
		l := d.script(64, 9)
		b, e := replay.Encode(l)
		want(t, "Encode", b, moveBytes(l))
		want(t, "its error", e, api.OK)
		got, f := replay.Decode(moveBytes(l))
		want(t, "Decode", got, l)
		want(t, "its fault", f, api.Fault{})
	}
	want(t, "no moves", moveBytes(nil), []byte{'F', 'R', 'S', '1', 0, 0, 0, 0})
	long := make([]api.Move, api.MaxActs+1)
	fair := slices.Repeat([]api.Move{{Kind: api.Fair, A: 63, B: 62, K: 61}}, api.MaxActs)
	for _, c := range []struct {
		l []api.Move
		e api.Errno
	}{{long, api.ErrLong}, {long[1:], api.ErrKind}, {fair, api.OK}, {nil, api.OK}, {badMoves, api.ErrKind}, {[]api.Move{{Kind: 1}, {Kind: 257}}, api.ErrKind}} {
		b, e := replay.Encode(c.l)
		want(t, "Encode's error", e, c.e)
		want(t, "nothing beside it", e == api.OK || len(b) == 0, true)
	}
	many := moveBytes(fair)
	got, f := replay.Decode(many)
	want(t, "as many as there may be", len(got), api.MaxActs)
	want(t, "as many as there may be", f, api.Fault{})
	b := moveBytes([]api.Move{{Kind: 2, A: 1, B: 2, K: 3}, {Kind: 5}})
	for i, c := range []struct {
		b []byte
		f api.Fault
	}{
		{nil, api.Fault{Errno: api.ErrShort}}, {[]byte("XYZ"), api.Fault{Errno: api.ErrShort, At: 3}}, {[]byte("FRS2"), api.Fault{Errno: api.ErrMagic}}, {changed(b, 0, 'G'), api.Fault{Errno: api.ErrMagic}}, {changed(many, 0, []byte("FRT1")...), api.Fault{Errno: api.ErrMagic}},
		{changed(b, 4, words32(nil, 1<<20+1)...), api.Fault{Errno: api.ErrLong, At: 4}}, {changed(b, 4, words32(nil, 1<<32-1)...)[:8], api.Fault{Errno: api.ErrLong, At: 4}}, {changed(b, 4, words32(nil, 1<<20)...), api.Fault{Errno: api.ErrShort, At: 16}},
		{changed(b, 8, 0), api.Fault{Errno: api.ErrKind, At: 8}}, {changed(b, 8, 6), api.Fault{Errno: api.ErrKind, At: 8}}, {changed(b, 9, 64), api.Fault{Errno: api.ErrKind, At: 8}}, {changed(b, 10, 64), api.Fault{Errno: api.ErrKind, At: 8}}, {changed(b, 11, 255), api.Fault{Errno: api.ErrKind, At: 8}}, {changed(b, 12, 9), api.Fault{Errno: api.ErrKind, At: 12}}, {changed(b, 15, 64), api.Fault{Errno: api.ErrKind, At: 12}},
		{append(slices.Clone(b), 0), api.Fault{Errno: api.ErrSize, At: 16}}, {changed(b, 4, 1), api.Fault{Errno: api.ErrSize, At: 12}}, {changed(b, 4, 0), api.Fault{Errno: api.ErrSize, At: 8}}, {append(changed(b, 12, 9), 1), api.Fault{Errno: api.ErrKind, At: 12}},
	} {
		l, f := replay.Decode(c.b)
		if f != c.f {
			t.Errorf("Decode of the case %d: %v, not %v", i, f, c.f)
		}
		want(t, "nothing beside a fault", l, nil)
	}
}

// useful tells whether a move does something, by other means; it is done.
func useful(g *grid.Grid, m api.Move) bool {
	switch m.Kind {
	case api.Send:
		return g.Pick(m.A)
	case api.Hand:
		n := g.Len(m.A, m.B)
		g.Deliver(m.A, m.B, m.K)
		return g.Len(m.A, m.B) != n
	case api.Twice:
		return g.Double(m.A, m.B, m.K) == api.OK
	case api.Last:
		return g.Move(m.A, m.B, m.K) == api.OK
	}
	return g.Window()
}

func TestP36_2(t *testing.T) {
	d := &dice{state: 2}
	dropped := 0
	for i := 0; i < 60; i++ {
		for _, kind := range allKinds {
			s := d.setup(kind)
			l := d.script(s.R*s.C, 150)
			if d.coin() {
				for n := 0; n < 30; n++ {
					l = slices.Insert(l, d.below(len(l)+1), api.Move{Kind: api.Fair, A: d.below(3)})
				}
			}
			a, b := newGrid(t, s), newGrid(t, s)
			var use, plain []api.Move
			var steps []int
			for _, m := range l {
				ahead := a.Len(m.A, m.B)
				if handed := m.Kind == api.Hand && useful(a, m); m.Kind != api.Hand && useful(a, m) || handed {
					use = append(use, m)
					if handed && ahead > 1 {
						dropped++
					}
				}
				steps = append(steps, a.Rounds())
				if m.Kind != api.Fair {
					useful(b, m)
					plain = append(plain, m)
					continue
				}
				for k := range b.Workers() {
					if b.Pick(k) {
						plain = append(plain, api.Move{Kind: api.Send, A: k})
					}
				}
				for from := range b.Workers() {
					for to := range b.Workers() {
						if b.Len(from, to) > 0 {
							plain = append(plain, api.Move{Kind: api.Hand, A: from, B: to, K: b.Oldest(from, to)})
							b.Deliver(from, to, b.Oldest(from, to))
						}
					}
				}
			}
			got, e := replay.Useful(s, l)
			want(t, "Useful", got, use)
			want(t, "its error", e, api.OK)
			got, e = replay.Plain(s, l)
			want(t, "Plain", got, plain)
			want(t, "its error", e, api.OK)
			counts, e := replay.Steps(s, l)
			want(t, "Steps", counts, steps)
			want(t, "its error", e, api.OK)
			finish := slices.Clone(l)
			for !a.Ended() {
				a.Window()
				finish = append(finish, api.Move{Kind: api.Fair})
			}
			got, e = replay.Finish(s, l)
			want(t, "Finish", got, finish)
			want(t, "its error", e, api.OK)
		}
	}
	want(t, "some frames are dropped", dropped > 0, true)
}

func TestP36_2_wrong(t *testing.T) {
	long := make([]api.Move, api.MaxActs+1)
	hear := func(s api.Setup, l []api.Move, right api.Errno) {
		for _, f := range []func(s api.Setup, l []api.Move) ([]api.Move, api.Errno){replay.Useful, replay.Plain, replay.Finish} {
			got, e := f(s, l)
			want(t, "the error", e, right)
			want(t, "nothing beside it", got, nil)
		}
		got, e := replay.Steps(s, l)
		want(t, "Steps' error", e, right)
		want(t, "nothing beside it", got, nil)
	}
	for e, l := range badSetups() {
		for _, s := range l {
			if e != api.OK {
				hear(s, badMoves, e)
			}
		}
	}
	hear(tiny(), long, api.ErrLong)
	hear(tiny(), badMoves, api.ErrKind)
	hear(tiny(), []api.Move{{Kind: 1}, {Kind: 1, K: 64}}, api.ErrKind)
}

func TestP36_3(t *testing.T) {
	d := &dice{state: 3}
	for i := 0; i < 300; i++ {
		l := d.script(64, 9)
		b, _ := replay.Encode(l)
		got, f := replay.Decode(b)
		want(t, "Decode of Encode", got, l)
		want(t, "its fault", f, api.Fault{})
		again, e := replay.Encode(got)
		want(t, "Encode of Decode", again, b)
		want(t, "its error", e, api.OK)
		for n := range b {
			_, f = replay.Decode(b[:n])
			want(t, "bytes that are cut", f, api.Fault{Errno: api.ErrShort, At: n})
		}
	}
}

func TestP36_4(t *testing.T) {
	d := &dice{state: 4}
	for i := 0; i < 60; i++ {
		for _, kind := range allKinds {
			s := d.setup(kind)
			l := d.script(s.R*s.C, 200)
			right, _ := play.Run(s, l, 0)
			use, _ := replay.Useful(s, l)
			got, _ := play.Run(s, use, 0)
			want(t, "Useful ends as it does", got, right)
			plain, _ := replay.Plain(s, l)
			got, _ = play.Run(s, plain, 0)
			want(t, "Plain ends as it does", got, right)
			again, _ := replay.Useful(s, use)
			want(t, "Useful of Useful", again, use)
			want(t, "no windows in Plain", slices.ContainsFunc(plain, func(m api.Move) bool { return m.Kind == api.Fair }), false)
		}
	}
}

func TestP36_5(t *testing.T) {
	d := &dice{state: 5}
	for i := 0; i < 60; i++ {
		for _, kind := range allKinds {
			s := d.setup(kind)
			l, _ := replay.Finish(s, d.script(s.R*s.C, 200))
			r, e := play.Run(s, l, 0)
			want(t, "it is not starved", r.Result.Status != api.Starved, true)
			want(t, "its error", e, api.OK)
		}
	}
	l, _ := replay.Finish(tiny(), nil)
	r, _ := play.Run(tiny(), nil, 100)
	want(t, "as many windows as it takes", len(l), r.Windows)
}

func TestP36_6(t *testing.T) {
	d := &dice{state: 6}
	for i := 0; i < 60; i++ {
		for _, kind := range allKinds {
			s := d.setup(kind)
			l := d.script(s.R*s.C, 300)
			steps, _ := replay.Steps(s, l)
			want(t, "one of each move", len(steps), len(l))
			last := 0
			for _, n := range steps {
				want(t, "they never fall, and rise by one", n == last || n == last+1, true)
				last = n
			}
		}
	}
}

func TestReplayWhatever(t *testing.T) {
	whatever(t, 300, face{"replay.Encode", replay.Encode, false}, face{"replay.Decode", replay.Decode, false}, face{"replay.Useful", replay.Useful, false}, face{"replay.Plain", replay.Plain, false},
		face{"replay.Finish", func(s api.Setup, l []api.Move) ([]api.Move, api.Errno) {
			s.Limit = s.Limit % 30
			return replay.Finish(s, l)
		}, false}, face{"replay.Steps", replay.Steps, false})
}
