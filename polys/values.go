package polys

import (
	"slices"

	"gusset/fracs"
)

// Coef returns the coefficient of x^i y^j.
func Coef(p Poly, i, j int) fracs.Frac {
	for _, t := range normal(p) {
		if t.I == i && t.J == j {
			return t.C
		}
	}
	return fracs.Int(0)
}

// Degree returns the degree of p, or -1 for 0.
func Degree(p Poly) int {
	p = normal(p)
	if len(p) == 0 {
		return -1
	}
	last := p[len(p)-1]
	return last.I + last.J
}

// At returns the value of p at (x, y).
func At(p Poly, x, y fracs.Frac) fracs.Frac {
	p = normal(p)
	xs, ys := powersOf(x, Degree(p)), powersOf(y, Degree(p))
	var values []fracs.Frac
	for _, t := range p {
		values = append(values, fracs.Mul(t.C, fracs.Mul(xs[t.I], ys[t.J])))
	}
	return fracs.Sum(values...)
}

// powersOf returns the powers of x with the exponents 0 to n. Unlike those of fracs.Pow, they have no limit.
func powersOf(x fracs.Frac, n int) []fracs.Frac {
	l := []fracs.Frac{fracs.Int(1)}
	for i := range n {
		l = append(l, fracs.Mul(l[i], x))
	}
	return l
}

// Same reports whether a and b are equal.
func Same(a, b Poly) bool { return slices.Equal(normal(a), normal(b)) }
