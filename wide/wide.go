// Package wide is numbers of 128 bits, with a sign, in two halves. See ../../shared/doc/01-wide.md.
package wide

import "fretwork/api"

// Of is a number as a wide one.
func Of(n int64) api.Wide {
	return api.Wide{Hi: n >> 63, Lo: uint64(n)}
}

// Narrow is the way back: false, if the number is none of 64 bits.
func Narrow(w api.Wide) (int64, bool) {
	n := int64(w.Lo)
	if w != Of(n) {
		return 0, false
	}
	return n, true
}

// Add is the sum, going round at 2^128.
func Add(a, b api.Wide) api.Wide {
	sum := api.Wide{Hi: a.Hi + b.Hi, Lo: a.Lo + b.Lo}
	if sum.Lo < a.Lo {
		sum.Hi++
	}
	return sum
}

// Sub is the difference, going round at 2^128.
func Sub(a, b api.Wide) api.Wide {
	rest := api.Wide{Hi: a.Hi - b.Hi, Lo: a.Lo - b.Lo}
	if a.Lo < b.Lo {
		rest.Hi--
	}
	return rest
}

// Mul is the product: it always has room.
func Mul(a, b int64) api.Wide {
	p := products(uint64(a), uint64(b))
	sum := api.Wide{Hi: int64(p[3]), Lo: p[0]}
	sum = Add(sum, Left(api.Wide{Lo: p[1]}, 32))
	sum = Add(sum, Left(api.Wide{Lo: p[2]}, 32))
	// As a number without a sign one below 0 is 2^64 too much: so much of the other one goes off.
	if a < 0 {
		sum.Hi -= b
	}
	if b < 0 {
		sum.Hi -= a
	}
	return sum
}

// products is each half of the one times each half of the other one, from the lowest one on.
func products(a, b uint64) [4]uint64 {
	const half = 1<<32 - 1
	lowA, highA := a&half, a>>32
	lowB, highB := b&half, b>>32
	return [4]uint64{lowA * lowB, lowA * highB, highA * lowB, highA * highB}
}

// Compare is -1, 0, 1, as a is less than b, is it, or is greater.
func Compare(a, b api.Wide) int {
	switch {
	case a == b:
		return 0
	case a.Hi < b.Hi || a.Hi == b.Hi && a.Lo < b.Lo:
		return -1
	}
	return 1
}

// Left is w times 2^n, going round.
func Left(w api.Wide, n int) api.Wide {
	switch {
	case n < 0:
		return w
	case n > 127:
		return api.Wide{}
	case n > 63:
		return api.Wide{Hi: int64(w.Lo << uint(n-64))}
	}
	high := uint64(w.Hi)<<uint(n) | w.Lo>>uint(64-n)
	return api.Wide{Hi: int64(high), Lo: w.Lo << uint(n)}
}

// Right is w divided by 2^n, rounded down.
func Right(w api.Wide, n int) api.Wide {
	switch {
	case n < 0:
		return w
	case n > 127:
		return Of(w.Hi >> 63)
	case n > 63:
		return Of(w.Hi >> uint(n-64))
	}
	low := w.Lo>>uint(n) | uint64(w.Hi)<<uint(64-n)
	return api.Wide{Hi: w.Hi >> uint(n), Lo: low}
}
