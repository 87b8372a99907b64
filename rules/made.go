package rules

import (
	"slices"

	"gusset/api"
	"gusset/fracs"
	"gusset/integrals"
)

// Lattice returns the rule on the lattice of denominators n.
func Lattice(n int) (Rule, api.Errno) {
	if e := between(n, MaxLattice); e != api.OK {
		return Rule{}, e
	}
	var factors [][]fracs.Frac // the polynomial m is 1 at m/n, and 0 at 0, 1/n, .., (m - 1)/n
	for m := range n + 1 {
		factors = append(factors, basis(n, m, m))
	}
	// The integral of the only polynomial of degree n in the barycentric coordinates that is 1 at the point and 0 at
	// all others: each of these has a coordinate that is less than the point's, where one of the factors is 0.
	weight := func(i, j, k int) fracs.Frac { return mean(factors[i], factors[j], factors[k]) }
	var r Rule
	for i := n; i >= 0; i-- {
		for j := n - i; j >= 0; j-- {
			k := n - i - j
			r.Points = append(r.Points, [3]fracs.Frac{ratio(i, n), ratio(j, n), ratio(k, n)})
			r.Weights = append(r.Weights, weight(i, j, k))
		}
	}
	return Rule{slices.Clip(r.Points), slices.Clip(r.Weights)}, api.OK
}

// Cotes returns the closed Newton-Cotes rule with n + 1 positions.
func Cotes(n int) (Line, api.Errno) {
	if e := between(n, MaxCotes); e != api.OK {
		return Line{}, e
	}
	l := Line{make([]fracs.Frac, n+1), make([]fracs.Frac, n+1)}
	for m := range n + 1 {
		b := basis(n, m, n)
		l.At[m] = ratio(m, n)
		l.Weights[m] = total(b, func(power int) fracs.Frac { return ratio(1, power+1) })
	}
	return l, api.OK
}

// between returns what is wrong with n, which may be from 1 to most.
func between(n, most int) api.Errno {
	if n < 1 {
		return api.ErrArg
	}
	if n > most {
		return api.ErrDegree
	}
	return api.OK
}

// basis returns the coefficients, by ascending powers, of the polynomial that is 1 at m/n, and 0 at 0, 1/n, ..,
// last/n except m/n.
func basis(n, m, last int) []fracs.Frac {
	l := []fracs.Frac{fracs.Int(1)}
	for s := range last + 1 {
		if s != m {
			l = times(l, ratio(n, m-s), ratio(-s, m-s))
		}
	}
	return l
}

// times returns the coefficients of the product of l and a t + b.
func times(l []fracs.Frac, a, b fracs.Frac) []fracs.Frac {
	out := make([]fracs.Frac, len(l)+1)
	for i, c := range l {
		out[i] = fracs.Add(out[i], fracs.Mul(b, c))
		out[i+1] = fracs.Mul(a, c)
	}
	return out
}

// mean returns the integral of the product of three polynomials, one in each barycentric coordinate, over a triangle
// of area 1.
func mean(a, b, c []fracs.Frac) fracs.Frac {
	return total(a, func(i int) fracs.Frac {
		return total(b, func(j int) fracs.Frac {
			return total(c, func(k int) fracs.Frac { return integrals.Moment(i, j, k) })
		})
	})
}
