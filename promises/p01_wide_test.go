package promises

import (
	"math"
	"math/big"
	"testing"

	"fretwork/api"
	"fretwork/wide"
)

// great is a wide number as one of any size.
func great(w api.Wide) *big.Int {
	n := new(big.Int).Lsh(big.NewInt(w.Hi), 64)
	return n.Add(n, new(big.Int).SetUint64(w.Lo))
}

// goRound is a number of any size as a wide one, going round.
func goRound(n *big.Int) api.Wide {
	m := new(big.Int).Lsh(big.NewInt(1), 128)
	m.Mod(n, m)
	low := new(big.Int).And(m, new(big.Int).SetUint64(math.MaxUint64))
	return api.Wide{Hi: int64(new(big.Int).Rsh(m, 64).Uint64()), Lo: low.Uint64()}
}

func (d *dice) wide() api.Wide {
	switch d.below(3) {
	case 0:
		return api.Wide{Hi: d.odd(), Lo: uint64(d.odd())}
	case 1:
		return wide.Of(d.odd())
	}
	return api.Wide{Hi: int64(d.below(3)) - 1, Lo: d.word()}
}

func init() { maker((*dice).wide) }

func TestP1_1(t *testing.T) {
	d := &dice{}
	for i := 0; i < 4000; i++ {
		a, b, n, m := d.wide(), d.wide(), d.odd(), d.odd()
		x, y := great(a), great(b)
		want(t, "Of", great(wide.Of(n)).String(), big.NewInt(n).String())
		got, ok := wide.Narrow(a)
		want(t, "Narrow", ok, x.IsInt64())
		if ok {
			want(t, "Narrow", got, x.Int64())
		} else {
			want(t, "Narrow", got, 0)
		}
		want(t, "Add", wide.Add(a, b), goRound(new(big.Int).Add(x, y)))
		want(t, "Sub", wide.Sub(a, b), goRound(new(big.Int).Sub(x, y)))
		want(t, "Mul", wide.Mul(n, m), goRound(new(big.Int).Mul(big.NewInt(n), big.NewInt(m))))
		want(t, "Compare", wide.Compare(a, b), x.Cmp(y))
		want(t, "Compare", wide.Compare(a, a), 0)
	}
	for _, n := range oddNumbers {
		for _, m := range oddNumbers {
			want(t, "Mul", wide.Mul(n, m), goRound(new(big.Int).Mul(big.NewInt(n), big.NewInt(m))))
			want(t, "Compare", wide.Compare(wide.Of(n), wide.Of(m)), big.NewInt(n).Cmp(big.NewInt(m)))
		}
	}
	want(t, "-1 times -2^63", wide.Mul(-1, math.MinInt64), api.Wide{Lo: 1 << 63})
	if n, ok := wide.Narrow(api.Wide{Lo: 1 << 63}); ok || n != 0 {
		t.Error("2^63 is no number of 64 bits")
	}
	if n, ok := wide.Narrow(api.Wide{Hi: -1, Lo: 1 << 63}); !ok || n != math.MinInt64 {
		t.Error("-2^63 is one")
	}
	if _, ok := wide.Narrow(api.Wide{Hi: -1, Lo: 1<<63 - 1}); ok {
		t.Error("-2^63 less 1 is none")
	}
	want(t, "Add goes round", wide.Add(api.Wide{Hi: math.MaxInt64, Lo: math.MaxUint64}, wide.Of(1)), api.Wide{Hi: math.MinInt64})
	want(t, "Sub goes round", wide.Sub(api.Wide{Hi: math.MinInt64}, wide.Of(1)), api.Wide{Hi: math.MaxInt64, Lo: math.MaxUint64})
}

func TestP1_2(t *testing.T) {
	d := &dice{state: 2}
	for i := 0; i < 300; i++ {
		w := d.wide()
		for n := 0; n < 128; n++ {
			want(t, "Left", wide.Left(w, n), goRound(new(big.Int).Lsh(great(w), uint(n))))
			want(t, "Right", wide.Right(w, n), goRound(new(big.Int).Rsh(great(w), uint(n))))
		}
		below := api.Wide{}
		if w.Hi < 0 {
			below = wide.Of(-1)
		}
		for _, n := range []int{128, 129, 192, 256, 1 << 32, 1<<32 + 1, math.MaxInt} {
			want(t, "Left by much", wide.Left(w, n), api.Wide{})
			want(t, "Right by much", wide.Right(w, n), below)
		}
		for _, n := range []int{-1, -64, -128, math.MinInt} {
			want(t, "Left by less than 0", wide.Left(w, n), w)
			want(t, "Right by less than 0", wide.Right(w, n), w)
		}
	}
	want(t, "Right rounds down", wide.Right(wide.Of(-3), 1), wide.Of(-2))
}

func TestP1_3(t *testing.T) {
	d := &dice{state: 3}
	for i := 0; i < 2000; i++ {
		a, b, c, n := d.wide(), d.wide(), d.wide(), d.odd()
		want(t, "from both sides", wide.Add(a, b), wide.Add(b, a))
		want(t, "in any order", wide.Add(wide.Add(a, b), c), wide.Add(a, wide.Add(b, c)))
		want(t, "Sub undoes Add", wide.Sub(wide.Add(a, b), b), a)
		if got, ok := wide.Narrow(wide.Of(n)); !ok || got != n {
			t.Errorf("Narrow of Of %d: %d, %v", n, got, ok)
		}
	}
}

func TestP1_4(t *testing.T) {
	d := &dice{state: 4}
	for i := 0; i < 2000; i++ {
		a, b, c := d.odd(), d.odd()/2, d.odd()/2
		want(t, "Mul spreads", wide.Mul(a, b+c), wide.Add(wide.Mul(a, b), wide.Mul(a, c)))
		want(t, "Mul from both sides", wide.Mul(a, b), wide.Mul(b, a))
	}
}

func TestP1_5(t *testing.T) {
	d := &dice{state: 5}
	for i := 0; i < 2000; i++ {
		a, b, c := d.wide(), d.wide(), d.wide()
		if (a != api.Wide{Hi: math.MaxInt64, Lo: math.MaxUint64}) {
			want(t, "one more is greater", wide.Compare(a, wide.Add(a, wide.Of(1))), -1)
			want(t, "one less is less", wide.Compare(wide.Add(a, wide.Of(1)), a), 1)
		}
		want(t, "turned", wide.Compare(a, b), -wide.Compare(b, a))
		if wide.Compare(a, b) <= 0 && wide.Compare(b, c) <= 0 {
			want(t, "to a third", wide.Compare(a, c) <= 0, true)
		}
	}
}

func TestP1_6(t *testing.T) {
	d := &dice{state: 6}
	for i := 0; i < 2000; i++ {
		n := d.below(128)
		w := wide.Right(d.wide(), n)
		want(t, "Left undone", wide.Right(wide.Left(w, n), n), w)
	}
}

func TestWideWhatever(t *testing.T) {
	whatever(t, 300, face{"wide.Of", wide.Of, false}, face{"wide.Narrow", wide.Narrow, false}, face{"wide.Add", wide.Add, false},
		face{"wide.Sub", wide.Sub, false}, face{"wide.Mul", wide.Mul, false}, face{"wide.Compare", wide.Compare, false},
		face{"wide.Left", wide.Left, false}, face{"wide.Right", wide.Right, false})
}
