package ints

import (
	"strings"

	"gusset/api"
	"gusset/nats"
)

const minus = "-"

// Text returns the decimal form of a.
func Text(a Int) string {
	if a.negative {
		return minus + nats.Text(a.magnitude)
	}
	return nats.Text(a.magnitude)
}

// Parse returns the integer with the decimal form s.
func Parse(s string) (Int, api.Errno) {
	digits, negative := strings.CutPrefix(s, minus)
	n, e := nats.Parse(digits)
	if e != api.OK {
		return Int{}, e
	}
	if negative && n == (nats.Nat{}) {
		return Int{}, api.ErrForm
	}
	return From(negative, n), api.OK
}
