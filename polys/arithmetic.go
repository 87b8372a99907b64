package polys

import (
	"slices"

	"gusset/api"
	"gusset/fracs"
)

// Add returns a + b.
func Add(a, b Poly) Poly { return sum(slices.Concat(normal(a), normal(b))) }

// Sub returns a - b.
func Sub(a, b Poly) Poly { return Add(a, Neg(b)) }

// Neg returns -p.
func Neg(p Poly) Poly { return Scale(p, fracs.Int(-1)) }

// Scale returns c p.
func Scale(p Poly, c fracs.Frac) Poly {
	return transform(p, func(t Term) Term { return Term{I: t.I, J: t.J, C: fracs.Mul(c, t.C)} })
}

// Mul returns a b.
func Mul(a, b Poly) (Poly, api.Errno) {
	if Degree(a)+Degree(b) > api.MaxDegree {
		return nil, api.ErrDegree
	}
	return product(a, b), api.OK
}

// Pow returns p to the power n.
func Pow(p Poly, n int) (Poly, api.Errno) {
	if n < 0 || n > api.MaxDegree {
		return nil, api.ErrArg
	}
	if n*Degree(p) > api.MaxDegree {
		return nil, api.ErrDegree
	}
	out := Const(fracs.Int(1))
	for range n {
		out = product(out, p)
	}
	return out, api.OK
}

// product returns a b, whose degree is at most MaxDegree.
func product(a, b Poly) Poly {
	a, b = normal(a), normal(b)
	var l []Term
	for _, s := range a {
		for _, t := range b {
			l = append(l, Term{I: s.I + t.I, J: s.J + t.J, C: fracs.Mul(s.C, t.C)})
		}
	}
	return sum(l)
}

// transform returns the sum of what change returns for the terms of p.
func transform(p Poly, change func(Term) Term) Poly {
	var l []Term
	for _, t := range normal(p) {
		l = append(l, change(t))
	}
	return sum(l)
}
