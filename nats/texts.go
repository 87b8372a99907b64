package nats

import (
	"math/bits"
	"strconv"
	"strings"

	"gusset/api"
)

// The greatest power of ten that is a digit to the base 2^64, and its exponent: decimal digits are read and
// written by so many at a time.
const (
	chunkSize = 19
	chunkBase = 10_000_000_000_000_000_000
)

// Text returns the decimal form of a.
func Text(a Nat) string {
	if small(a) {
		return strconv.FormatUint(a.low, 10)
	}
	var chunks []uint64
	for d := digits(a); len(d) > 0; d = trim(d) {
		chunks = append(chunks, divideByDigit(d, chunkBase))
	}
	var out strings.Builder
	top := len(chunks) - 1
	out.WriteString(strconv.FormatUint(chunks[top], 10))
	for i := range top {
		s := strconv.FormatUint(chunks[top-1-i], 10)
		out.WriteString(strings.Repeat("0", chunkSize-len(s)))
		out.WriteString(s)
	}
	return out.String()
}

// Parse returns the number with the decimal form s.
func Parse(s string) (Nat, api.Errno) {
	if len(s) > api.MaxDigits {
		return Nat{}, api.ErrLimit
	}
	if !decimalForm(s) {
		return Nat{}, api.ErrForm
	}
	var d []uint64
	for len(s) > 0 {
		n := min(len(s), chunkSize)
		base, chunk := chunkOf(s[:n])
		d = timesPlus(d, base, chunk)
		s = s[n:]
	}
	return pack(d), api.OK
}

// decimalForm reports whether s is the decimal form of a number.
func decimalForm(s string) bool {
	for i := range len(s) {
		if s[i] < '0' || s[i] > '9' {
			return false
		}
	}
	return s == "0" || s != "" && s[0] != '0'
}

// chunkOf returns the number that the decimal digits s spell, and 10 to the power of their number.
func chunkOf(s string) (base, chunk uint64) {
	base = 1
	for i := range len(s) {
		base *= 10
		chunk = chunk*10 + uint64(s[i]-'0')
	}
	return base, chunk
}

// timesPlus returns the digits of d * factor + summand, in the memory of d as far as it reaches.
func timesPlus(d []uint64, factor, summand uint64) []uint64 {
	carry := summand
	for i, digit := range d {
		high, low := bits.Mul64(digit, factor)
		over := uint64(0)
		d[i], over = bits.Add64(low, carry, 0)
		carry = high + over
	}
	if carry > 0 {
		d = append(d, carry)
	}
	return d
}
