// Package wide has products of 128 bits, and fractions that are held against each other.
package wide

import (
	"cmp"
	"math/bits"

	"distributary/api"
)

// Num is a number of 128 bits.
type Num struct{ Hi, Lo uint64 }

// Mul is a product.
func Mul(a, b uint64) Num {
	hi, lo := bits.Mul64(a, b)
	return Num{Hi: hi, Lo: lo}
}

// Cmp is -1, 0 or 1, as a number is less than, is, or is more than another one.
func (a Num) Cmp(b Num) int {
	if a.Hi != b.Hi {
		return cmp.Compare(a.Hi, b.Hi)
	}
	return cmp.Compare(a.Lo, b.Lo)
}

// Add is a sum; false: it has more than 128 bits.
func (a Num) Add(b Num) (Num, bool) {
	lo, carry := bits.Add64(a.Lo, b.Lo, 0)
	hi, over := bits.Add64(a.Hi, b.Hi, carry)
	if over != 0 {
		return Num{}, false
	}
	return Num{Hi: hi, Lo: lo}, true
}

// Sum is the sum of numbers; false: it has more than 128 bits.
func Sum(l ...uint64) (Num, bool) {
	all := Num{}
	for _, n := range l {
		next, ok := all.Add(Num{Lo: n})
		if !ok {
			return Num{}, false
		}
		all = next
	}
	return all, true
}

// Div is a quotient, downwards, and what is left; false: by 0, or it has more than 64 bits.
func (a Num) Div(by uint64) (uint64, uint64, bool) {
	if a.Hi >= by { // so is each number by 0
		return 0, 0, false
	}
	quotient, left := bits.Div64(a.Hi, a.Lo, by)
	return quotient, left, true
}

// Share is n times a part of all, downwards; false: there is nothing, or it has more than 64 bits.
func Share(n, part, all uint64) (uint64, bool) {
	quotient, _, ok := Mul(n, part).Div(all)
	return quotient, ok
}

// Frac is a fraction; by 0 it is above all others.
type Frac struct{ Up, Down uint64 }

// Cmp holds a fraction against another one.
func (a Frac) Cmp(b Frac) int {
	switch {
	case a.Down == 0 && b.Down == 0:
		return 0
	case a.Down == 0:
		return 1
	case b.Down == 0:
		return -1
	}
	return Mul(a.Up, b.Down).Cmp(Mul(b.Up, a.Down))
}

// Least is the place of the least fraction, of alike ones the first; None: there is none.
func Least(l ...Frac) int {
	least := api.None
	for i, x := range l {
		if least == api.None || x.Cmp(l[least]) < 0 {
			least = i
		}
	}
	return least
}
