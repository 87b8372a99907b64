// Package nats implements nonnegative integers of arbitrary size (layer 1). See shared/doc/01-nats.md.
package nats

import (
	"cmp"
	"math/bits"
)

// Nat is a nonnegative integer.
//
// Its digits to the base 2^64 are low, the lowest, and those that high spells: 8 bytes each, the highest
// digit first, and that one never 0. So every number has one spelling: == compares numbers, and strings of
// the same length are in the order of the numbers they spell.
type Nat struct {
	low  uint64
	high string
}

const (
	digitBits  = 64
	digitBytes = 8
)

// Of returns n as a Nat.
func Of(n uint64) Nat { return Nat{low: n} }

// U64 returns the number and whether it is less than 2^64.
func (a Nat) U64() (uint64, bool) {
	if !small(a) {
		return 0, false
	}
	return a.low, true
}

// Cmp compares two numbers.
func Cmp(a, b Nat) int {
	if a.high == b.high {
		return cmp.Compare(a.low, b.low)
	}
	if len(a.high) == len(b.high) {
		return cmp.Compare(a.high, b.high)
	}
	return cmp.Compare(len(a.high), len(b.high))
}

// Bits returns the number of binary digits of a.
func Bits(a Nat) int {
	if small(a) {
		return bits.Len64(a.low)
	}
	return len(a.high)/digitBytes*digitBits + bits.Len64(digitAt(a.high, 0))
}

// small reports whether a is less than 2^64.
func small(a Nat) bool { return a.high == "" }

// twoDigits returns high 2^64 + low.
func twoDigits(high, low uint64) Nat {
	if high == 0 {
		return Nat{low: low}
	}
	return pack([]uint64{low, high})
}

// digits returns the digits of a, the lowest first. They are none if a is 0.
func digits(a Nat) []uint64 {
	n := len(a.high) / digitBytes
	d := make([]uint64, n+1)
	d[0] = a.low
	for i := range n {
		d[n-i] = digitAt(a.high, i)
	}
	return trim(d)
}

// pack returns the number with the digits d, the lowest first.
func pack(d []uint64) Nat {
	d = trim(d)
	if len(d) == 0 {
		return Nat{}
	}
	top := len(d) - 1
	high := make([]byte, top*digitBytes)
	for i := range top {
		putDigit(high, i, d[top-i])
	}
	return Nat{low: d[0], high: string(high)}
}

// trim returns d without the zeros at its high end.
func trim(d []uint64) []uint64 {
	n := len(d)
	for n > 0 && d[n-1] == 0 {
		n--
	}
	return d[:n]
}

// digitAt returns the digit that s spells at place i, counted from the highest.
func digitAt(s string, i int) uint64 {
	s = s[i*digitBytes : (i+1)*digitBytes]
	return uint64(s[0])<<56 | uint64(s[1])<<48 | uint64(s[2])<<40 | uint64(s[3])<<32 |
		uint64(s[4])<<24 | uint64(s[5])<<16 | uint64(s[6])<<8 | uint64(s[7])
}

// putDigit spells the digit d in b at place i.
func putDigit(b []byte, i int, d uint64) {
	b = b[i*digitBytes : (i+1)*digitBytes]
	b[0], b[1], b[2], b[3] = byte(d>>56), byte(d>>48), byte(d>>40), byte(d>>32)
	b[4], b[5], b[6], b[7] = byte(d>>24), byte(d>>16), byte(d>>8), byte(d)
}
