package integrals

import (
	"gusset/fracs"
	"gusset/polys"
)

// Area returns the signed area of a triangle.
func Area(a, b, c [2]fracs.Frac) fracs.Frac {
	u, v := way(a, b), way(a, c)
	return ratio(fracs.Sub(fracs.Mul(u[0], v[1]), fracs.Mul(v[0], u[1])), fracs.Int(2))
}

// Tri returns the signed integral of p over a triangle.
func Tri(p polys.Poly, a, b, c [2]fracs.Frac) fracs.Frac {
	u, v := way(a, b), way(a, c)
	// Shifted so, x and y are the barycentric coordinates of b and c.
	p = polys.Shift(p, u[0], v[0], a[0], u[1], v[1], a[1])
	return fracs.Mul(Area(a, b, c), integral(p, func(i, j int) fracs.Frac { return Moment(i, j, 0) }))
}

// Polygon returns the signed integral of p over a polygon.
func Polygon(p polys.Poly, l ...[2]fracs.Frac) fracs.Frac {
	var parts []fracs.Frac
	for i := 2; i < len(l); i++ {
		parts = append(parts, Tri(p, l[0], l[i-1], l[i]))
	}
	return fracs.Sum(parts...)
}
