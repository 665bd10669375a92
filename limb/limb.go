// Package limb is layer 1: numbers from 0 on, of any size. See shared/doc/01-limb.md.
package limb

import (
	"cmp"
	"math/bits"
	"slices"

	"glider/api"
)

// limbBits is how many bits a limb has.
const limbBits = 32

// Right: in one way?
func Right(a []uint32) bool {
	return len(a) == 0 || a[len(a)-1] != 0
}

// Norm: in one way.
func Norm(a []uint32) []uint32 {
	return append([]uint32(nil), trim(a)...)
}

// Cmp: below, as, above.
func Cmp(a, b []uint32) int {
	a, b = trim(a), trim(b)
	if len(a) != len(b) {
		return cmp.Compare(len(a), len(b))
	}
	for i, x := range slices.Backward(a) {
		if x != b[i] {
			return cmp.Compare(x, b[i])
		}
	}
	return 0
}

// Add: a sum.
func Add(a, b []uint32) []uint32 {
	if len(a) < len(b) {
		a, b = b, a
	}
	sum := make([]uint32, len(a)+1)
	var carry uint32
	for i, x := range a {
		sum[i], carry = bits.Add32(x, at(b, i), carry)
	}
	sum[len(a)] = carry
	return trim(sum)
}

// Sub: a difference.
func Sub(a, b []uint32) ([]uint32, bool) {
	if Cmp(a, b) < 0 {
		return nil, false
	}
	rest := make([]uint32, len(a))
	var borrow uint32
	for i, x := range a {
		// Limbs of b behind the last one of a are 0, since b isn't above a.
		rest[i], borrow = bits.Sub32(x, at(b, i), borrow)
	}
	return trim(rest), true
}

// Shl: times a power of two.
func Shl(a []uint32, n int) []uint32 {
	if !shift(n) {
		return nil
	}
	whole, part := n/limbBits, n%limbBits
	up := make([]uint32, whole+len(a)+1)
	for i, x := range a {
		wide := uint64(x) << part
		up[whole+i] |= uint32(wide)
		up[whole+i+1] = uint32(wide >> limbBits)
	}
	return trim(up)
}

// Shr: divided by one.
func Shr(a []uint32, n int) []uint32 {
	if !shift(n) || n/limbBits >= len(a) {
		return nil
	}
	whole, part := n/limbBits, n%limbBits
	down := make([]uint32, len(a)-whole)
	var above uint32
	for i, x := range slices.Backward(a[whole:]) {
		down[i] = uint32((uint64(above)<<limbBits | uint64(x)) >> part)
		above = x
	}
	return trim(down)
}

// Mul: times a number, and one more.
func Mul(a []uint32, m, c uint32) []uint32 {
	product := make([]uint32, len(a)+1)
	carry := c
	for i, x := range a {
		// The greatest there can be, (2^32-1)^2 + 2^32-1, is below 2^64.
		wide := uint64(x)*uint64(m) + uint64(carry)
		product[i], carry = uint32(wide), uint32(wide>>limbBits)
	}
	product[len(a)] = carry
	return trim(product)
}

// Div: divided by a number; what is left.
func Div(a []uint32, m uint32) ([]uint32, uint32) {
	if m == 0 {
		return nil, 0
	}
	quotient := make([]uint32, len(a))
	var rest uint32
	for i, x := range slices.Backward(a) {
		// What is left is below m, so that the quotient has one limb.
		quotient[i], rest = bits.Div32(rest, x, m)
	}
	return trim(quotient), rest
}

// Len: how many bits.
func Len(a []uint32) int {
	for i, x := range slices.Backward(a) {
		if x != 0 {
			return i*limbBits + bits.Len32(x)
		}
	}
	return 0
}

// Bit: is one 1?
func Bit(a []uint32, i int) bool {
	return i >= 0 && at(a, i/limbBits)>>(i%limbBits)&1 == 1
}

// trim is a without the limbs behind the last one that isn't 0; it shares a's memory.
func trim(a []uint32) []uint32 {
	for i, x := range slices.Backward(a) {
		if x != 0 {
			return a[:i+1]
		}
	}
	return nil
}

// at is the limb in place i, which is 0 behind the last one.
func at(a []uint32, i int) uint32 {
	if i < len(a) {
		return a[i]
	}
	return 0
}

// shift tells whether numbers may be shifted by n.
func shift(n int) bool {
	return n >= 0 && n <= api.MaxShift
}
