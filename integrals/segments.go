package integrals

import (
	"gusset/fracs"
	"gusset/polys"
)

// Seg returns the integral of p along a segment, without its length.
func Seg(p polys.Poly, a, b [2]fracs.Frac) fracs.Frac {
	u, zero := way(a, b), fracs.Int(0)
	// Shifted so, x is t, and there is no y.
	p = polys.Shift(p, u[0], zero, a[0], u[1], zero, a[1])
	return integral(p, func(i, _ int) fracs.Frac { return ratio(fracs.Int(1), fracs.Int(int64(i)+1)) })
}

// Flow returns the flux of a vector field through a segment.
func Flow(gx, gy polys.Poly, a, b [2]fracs.Frac) fracs.Frac {
	u := way(a, b)
	return fracs.Sub(fracs.Mul(u[1], Seg(gx, a, b)), fracs.Mul(u[0], Seg(gy, a, b)))
}
