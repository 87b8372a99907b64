package decimals

import (
	"gusset/api"
	"gusset/fracs"
	"gusset/nats"
)

// Cycle returns the number of leading digits and the length of the period of the decimal expansion of a.
func Cycle(a fracs.Frac) (ahead, round int, e api.Errno) {
	ahead, den := leading(fracs.Den(a))
	if ahead > api.MaxPlaces {
		return 0, 0, api.ErrLimit
	}
	if den == nats.Of(1) {
		return ahead, 0, api.OK
	}
	round, ok := period(den, api.MaxPlaces-ahead)
	if !ok {
		return 0, 0, api.ErrLimit
	}
	return ahead, round, api.OK
}

// leading returns the number of leading digits of 1/den, and den without its factors 2 and 5.
// It stops counting, with factors left, when the number is greater than MaxPlaces.
//
// Each leading digit moves the point by one place, so that what the denominator has in common with 10 cancels.
func leading(den nats.Nat) (int, nats.Nat) {
	for n := range api.MaxPlaces + 1 {
		common := nats.Gcd(den, nats.Of(10))
		if common == nats.Of(1) {
			return n, den
		}
		den, _, _ = nats.Div(den, common)
	}
	return api.MaxPlaces + 1, den
}

// period returns the length of the period of 1/den, and whether it is at most most.
// den is greater than 1 and has no factor 2 or 5.
//
// The remainders of the division return to the first one, which is 1, after as many digits as the period has.
func period(den nats.Nat, most int) (int, bool) {
	rest := nats.Of(1)
	for n := range most {
		_, rest, _ = nats.Div(nats.Mul(rest, nats.Of(10)), den)
		if rest == nats.Of(1) {
			return n + 1, true
		}
	}
	return 0, false
}
