// Package ring is the semirings. See ../../shared/doc/02-ring.md.
package ring

import (
	"fretwork/api"
	"fretwork/wide"
)

// names stand by the rings' numbers: that of none is empty.
var names = [...]string{"", "minplus", "orand", "minfirst", "minsecond", "plustimes"}

// Is tells whether there is such a ring.
func Is(r api.Ring) bool {
	return r >= api.MinPlus && r <= api.PlusTimes
}

// Right tells whether a value is one of the ring.
func Right(r api.Ring, v int64) bool {
	switch r {
	case api.PlusTimes:
		return true
	case api.OrAnd:
		if v > 1 {
			return false
		}
		fallthrough
	case api.MinPlus, api.MinFirst, api.MinSecond:
		return v >= 0 && v <= api.Inf
	}
	return false
}

// Factor tells whether a value may stand in a matrix.
func Factor(r api.Ring, v int64) bool {
	switch r {
	case api.PlusTimes:
		if v < -api.MaxWeight || v > api.MaxWeight {
			return false
		}
		fallthrough
	default:
		return Right(r, v)
	}
}

// Zero adds nothing.
func Zero(r api.Ring) int64 {
	switch r {
	case api.MinPlus, api.MinFirst, api.MinSecond:
		return api.Inf
	}
	return 0
}

// One changes nothing: false, if the ring has none.
func One(r api.Ring) (int64, bool) {
	switch r {
	case api.MinPlus:
		return 0, true
	case api.OrAnd, api.PlusTimes:
		return 1, true
	}
	return 0, false
}

// Add puts two sums together.
func Add(r api.Ring, a, b api.Wide) api.Wide {
	switch r {
	case api.MinPlus, api.MinFirst, api.MinSecond:
		return lesser(a, b)
	case api.OrAnd:
		return truth(a != api.Wide{} || b != api.Wide{})
	case api.PlusTimes:
		return wide.Add(a, b)
	}
	return api.Wide{}
}

// Mul is a matrix's value times a vector's.
func Mul(r api.Ring, a, x int64) api.Wide {
	switch r {
	case api.MinPlus:
		if a >= api.Inf || x >= api.Inf {
			return wide.Of(api.Inf)
		}
		return lesser(wide.Add(wide.Of(a), wide.Of(x)), wide.Of(api.Inf))
	case api.OrAnd:
		return truth(a != 0 && x != 0)
	case api.MinSecond:
		a, x = x, a
		fallthrough
	case api.MinFirst:
		if a >= api.Inf || x >= api.Inf {
			return wide.Of(api.Inf)
		}
		return wide.Of(a)
	case api.PlusTimes:
		return wide.Mul(a, x)
	}
	return api.Wide{}
}

func lesser(a, b api.Wide) api.Wide {
	if wide.Compare(b, a) < 0 {
		return b
	}
	return a
}

func truth(is bool) api.Wide {
	if is {
		return wide.Of(1)
	}
	return api.Wide{}
}

// Narrow is a sum as a value: false, if it is none of 64 bits.
func Narrow(r api.Ring, w api.Wide) (int64, bool) {
	return wide.Narrow(w)
}

// Name is a ring's name, empty of none.
func Name(r api.Ring) string {
	if !Is(r) {
		return ""
	}
	return names[r]
}

// Parse is the ring of a name.
func Parse(s string) api.Ring {
	for i, name := range names {
		if name == s {
			return api.Ring(i)
		}
	}
	return api.NoRing
}
