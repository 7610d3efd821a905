package promises

import (
	"math"
	"testing"

	"fretwork/api"
	"fretwork/ring"
	"fretwork/wide"
)

var allRings = []api.Ring{api.MinPlus, api.OrAnd, api.MinFirst, api.MinSecond, api.PlusTimes}
var noRings = []api.Ring{api.NoRing, -1, 6, math.MaxInt, math.MinInt}

// ring is a ring, now and then none.
func (d *dice) ring() api.Ring { return api.Ring(d.between(0, 6)) }

func init() { maker((*dice).ring) }

// value is a value of a ring.
func (d *dice) value(r api.Ring) int64 {
	for {
		v := d.odd()
		if d.coin() {
			v = d.small()
		}
		if r == api.OrAnd {
			v &= 1
		}
		if ring.Right(r, v) {
			return v
		}
	}
}

func (d *dice) factor(r api.Ring) int64 {
	for {
		if v := d.value(r); ring.Factor(r, v) {
			return v
		}
	}
}

func takesLeast(r api.Ring) bool {
	return r == api.MinPlus || r == api.MinFirst || r == api.MinSecond
}

func TestP2_1(t *testing.T) {
	for _, r := range allRings {
		want(t, "Is", ring.Is(r), true)
		for _, v := range oddNumbers {
			right := r == api.PlusTimes || v >= 0 && (r == api.OrAnd && v < 2 || takesLeast(r) && v <= api.Inf)
			factor := right && (r != api.PlusTimes || v >= -api.MaxWeight && v <= api.MaxWeight)
			want(t, ring.Name(r)+" Right", ring.Right(r, v), right)
			want(t, ring.Name(r)+" Factor", ring.Factor(r, v), factor)
		}
	}
	for _, r := range noRings {
		one, ok := ring.One(r)
		if ring.Is(r) || ring.Right(r, 0) || ring.Right(r, 1) || ring.Factor(r, 0) || ring.Zero(r) != 0 || one != 0 || ok {
			t.Errorf("%d is no ring", r)
		}
	}
	for r, zero := range map[api.Ring]int64{api.MinPlus: api.Inf, api.OrAnd: 0, api.MinFirst: api.Inf, api.MinSecond: api.Inf, api.PlusTimes: 0} {
		want(t, "Zero", ring.Zero(r), zero)
	}
	for r, right := range map[api.Ring][2]int64{api.MinPlus: {0, 1}, api.OrAnd: {1, 1}, api.MinFirst: {0, 0}, api.MinSecond: {0, 0}, api.PlusTimes: {1, 1}} {
		one, ok := ring.One(r)
		want(t, "One", one, right[0])
		want(t, "whether there is a One", ok, right[1] == 1)
	}
}

// sumOf and timesOf say what the table says, by other means.
func sumOf(r api.Ring, a, b api.Wide) api.Wide {
	switch {
	case takesLeast(r):
		if great(a).Cmp(great(b)) < 0 {
			return a
		}
		return b
	case r == api.OrAnd && (a != api.Wide{} || b != api.Wide{}):
		return api.Wide{Lo: 1}
	case r == api.PlusTimes:
		return wide.Add(a, b)
	}
	return api.Wide{}
}

func timesOf(r api.Ring, a, x int64) api.Wide {
	switch {
	case takesLeast(r) && (a >= api.Inf || x >= api.Inf):
		return api.Wide{Lo: 1 << 62}
	case r == api.MinPlus:
		sum := wide.Add(wide.Of(a), wide.Of(x))
		if great(sum).Cmp(great(wide.Of(api.Inf))) > 0 {
			return wide.Of(api.Inf)
		}
		return sum
	case r == api.MinFirst:
		return wide.Of(a)
	case r == api.MinSecond:
		return wide.Of(x)
	case r == api.OrAnd && a != 0 && x != 0:
		return api.Wide{Lo: 1}
	case r == api.PlusTimes:
		return wide.Mul(a, x)
	}
	return api.Wide{}
}

func TestP2_2(t *testing.T) {
	d := &dice{}
	for _, r := range append(append([]api.Ring{}, allRings...), noRings...) {
		for i := 0; i < 1000; i++ {
			a, b := d.wide(), d.wide()
			want(t, "Add", ring.Add(r, a, b), sumOf(r, a, b))
			want(t, "Add of one", ring.Add(r, a, a), sumOf(r, a, a))
			got, ok := ring.Narrow(r, a)
			right, is := wide.Narrow(a)
			want(t, "Narrow", got, right)
			want(t, "Narrow", ok, is)
		}
		for _, a := range oddNumbers {
			for _, x := range oddNumbers {
				want(t, "Mul", ring.Mul(r, a, x), timesOf(r, a, x))
			}
		}
	}
	want(t, "Inf and 3", ring.Mul(api.MinPlus, api.Inf, 3), wide.Of(api.Inf))
	want(t, "1 and 7", ring.Mul(api.MinSecond, 1, 7), wide.Of(7))
	want(t, "no more than Inf", ring.Mul(api.MinPlus, api.Inf-1, 2), wide.Of(api.Inf))
	want(t, "a sum below 64 bits", ring.Mul(api.MinPlus, math.MinInt64, math.MinInt64), api.Wide{Hi: -1})
	for r, name := range map[api.Ring]string{api.MinPlus: "minplus", api.OrAnd: "orand", api.MinFirst: "minfirst", api.MinSecond: "minsecond", api.PlusTimes: "plustimes"} {
		want(t, "Name", ring.Name(r), name)
		want(t, "Parse", ring.Parse(name), r)
	}
	for _, r := range noRings {
		want(t, "Name of none", ring.Name(r), "")
	}
	for _, s := range []string{"", "MinPlus", "minplus ", " minplus", "min", "plus", "none", "minplusminfirst", "\x00"} {
		want(t, "Parse of "+s, ring.Parse(s), api.NoRing)
	}
}

func TestP2_3(t *testing.T) {
	d := &dice{state: 3}
	for _, r := range allRings {
		zero := ring.Zero(r)
		for i := 0; i < 1000; i++ {
			x, y, z, f := d.value(r), d.value(r), d.value(r), d.factor(r)
			a, b, c := wide.Of(x), wide.Of(y), wide.Of(z)
			want(t, "from both sides", ring.Add(r, a, b), ring.Add(r, b, a))
			want(t, "in any order", ring.Add(r, ring.Add(r, a, b), c), ring.Add(r, a, ring.Add(r, b, c)))
			want(t, "Zero adds nothing", ring.Add(r, a, wide.Of(zero)), a)
			want(t, "a factor and Zero", ring.Mul(r, f, zero), wide.Of(zero))
			if ring.Factor(r, zero) {
				want(t, "Zero and a value", ring.Mul(r, zero, x), wide.Of(zero))
			}
			if sum, ok := ring.Narrow(r, ring.Add(r, a, b)); ok {
				want(t, "Mul spreads", ring.Mul(r, f, sum), ring.Add(r, ring.Mul(r, f, x), ring.Mul(r, f, y)))
			}
		}
	}
}

func TestP2_4(t *testing.T) {
	d := &dice{state: 4}
	for _, r := range allRings {
		one, ok := ring.One(r)
		for i := 0; ok && i < 500; i++ {
			x, f := d.value(r), d.factor(r)
			want(t, "One and a value", ring.Mul(r, one, x), wide.Of(x))
			want(t, "a factor and One", ring.Mul(r, f, one), wide.Of(f))
		}
	}
}

func TestP2_5(t *testing.T) {
	d := &dice{state: 5}
	for _, r := range allRings {
		for i := 0; i < 1000; i++ {
			x, y, f := d.value(r), d.value(r), d.factor(r)
			for _, w := range []api.Wide{ring.Add(r, wide.Of(x), wide.Of(y)), ring.Mul(r, f, x)} {
				v, ok := ring.Narrow(r, w)
				if r != api.PlusTimes && !ok || ok && !ring.Right(r, v) {
					t.Errorf("%s of %d, %d, %d: %v is no value", ring.Name(r), f, x, y, w)
				}
			}
			if r != api.PlusTimes {
				want(t, "a value and itself", ring.Add(r, wide.Of(x), wide.Of(x)), wide.Of(x))
			}
		}
	}
}

func TestP2_6(t *testing.T) {
	for _, v := range []int64{math.MinInt64, math.MaxInt64} {
		var sum api.Wide
		for i := 0; i < 1<<16; i++ {
			sum = ring.Add(api.PlusTimes, sum, ring.Mul(api.PlusTimes, api.MaxWeight, v))
		}
		right := great(wide.Mul(api.MaxWeight, v))
		right.Lsh(right, 16)
		want(t, "a great sum", great(sum).String(), right.String())
	}
}

func TestRingWhatever(t *testing.T) {
	whatever(t, 300, face{"ring.Is", ring.Is, false}, face{"ring.Right", ring.Right, false}, face{"ring.Factor", ring.Factor, false},
		face{"ring.Zero", ring.Zero, false}, face{"ring.One", ring.One, false}, face{"ring.Add", ring.Add, false}, face{"ring.Mul", ring.Mul, false},
		face{"ring.Narrow", ring.Narrow, false}, face{"ring.Name", ring.Name, false}, face{"ring.Parse", ring.Parse, false})
}
