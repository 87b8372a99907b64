package rules

import (
	"gusset/api"
	"gusset/fracs"
	"gusset/integrals"
	"gusset/polys"
)

// Apply returns the approximation of the integral of p over a triangle.
func Apply(r Rule, p polys.Poly, a, b, c [2]fracs.Frac) fracs.Frac {
	if Check(r) != api.OK {
		return fracs.Int(0)
	}
	mean := total(r.Weights, func(place int) fracs.Frac {
		at := mix(r.Points[place], a, b, c)
		return polys.At(p, at[0], at[1])
	})
	return fracs.Mul(integrals.Area(a, b, c), mean)
}

// ApplyLine returns the approximation of the integral of p along a segment.
func ApplyLine(l Line, p polys.Poly, a, b [2]fracs.Frac) fracs.Frac {
	if !valid(l) {
		return fracs.Int(0)
	}
	return total(l.Weights, func(place int) fracs.Frac {
		var at [2]fracs.Frac
		for i := range at {
			at[i] = fracs.Add(a[i], fracs.Mul(l.At[place], fracs.Sub(b[i], a[i])))
		}
		return polys.At(p, at[0], at[1])
	})
}

// mix returns the point with the given barycentric coordinates with respect to a, b, c.
func mix(shares [3]fracs.Frac, a, b, c [2]fracs.Frac) [2]fracs.Frac {
	var at [2]fracs.Frac
	for i := range at {
		at[i] = fracs.Sum(fracs.Mul(shares[0], a[i]), fracs.Mul(shares[1], b[i]), fracs.Mul(shares[2], c[i]))
	}
	return at
}
