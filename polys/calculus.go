package polys

import "gusset/fracs"

// Dx returns the derivative by x.
func Dx(p Poly) Poly {
	return transform(p, func(t Term) Term {
		return Term{I: max(t.I-1, 0), J: t.J, C: times(t.I, t.C)}
	})
}

// Dy returns the derivative by y.
func Dy(p Poly) Poly {
	return transform(p, func(t Term) Term {
		return Term{I: t.I, J: max(t.J-1, 0), C: times(t.J, t.C)}
	})
}

// Laplace returns the Laplacian of p.
func Laplace(p Poly) Poly { return Add(Dx(Dx(p)), Dy(Dy(p))) }

// Shift substitutes affine functions for x and y.
func Shift(p Poly, ax, bx, cx, ay, by, cy fracs.Frac) Poly {
	p = normal(p)
	d := Degree(p)
	u, v := linear(ax, bx, cx), linear(ay, by, cy)
	return horner(d, u, func(i int) Poly {
		return horner(d-i, v, func(j int) Poly { return Const(Coef(p, i, j)) })
	})
}

// horner returns the sum of coef(i) u^i for i from 0 to d. As the degree of u is at most 1, and that of coef(i) at
// most d - i, that of no polynomial on the way is greater than d.
func horner(d int, u Poly, coef func(i int) Poly) Poly {
	var out Poly
	for i := range d + 1 {
		out = Add(product(out, u), coef(d-i))
	}
	return out
}

// times returns n c.
func times(n int, c fracs.Frac) fracs.Frac { return fracs.Mul(fracs.Int(int64(n)), c) }
