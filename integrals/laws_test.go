package integrals_test

import (
	"slices"
	"testing"

	"gusset/fracs"
	"gusset/integrals"
	"gusset/polys"
)

// few returns polynomials of all kinds, few enough to be paired.
func few() []polys.Poly {
	return []polys.Poly{nil, power(0, 0), power(1, 0), power(0, 2), dense(2), dense(5), {term("1", 0, 1), term("2/3", 4, 0), term("-1", 0, 1)}, power(12, 1)}
}

// shapes returns triangles in either order, some of them without an area.
func shapes() [][3][2]fracs.Frac {
	var l [][3][2]fracs.Frac
	for i, x := range triangles() {
		if i%7 == 0 {
			l = append(l, x)
		}
	}
	return l
}

// P9.4: the divergence theorem.
func TestDivergence(t *testing.T) {
	for _, gx := range append(few(), power(12, 0), dense(12)) {
		for _, gy := range append(few(), power(0, 12)) {
			inner := polys.Add(polys.Dx(gx), polys.Dy(gy))
			for i, x := range shapes() {
				if i%11 != 0 {
					continue
				}
				a, b, c := x[0], x[1], x[2]
				flows := fracs.Sum(integrals.Flow(gx, gy, a, b), integrals.Flow(gx, gy, b, c), integrals.Flow(gx, gy, c, a))
				equal(t, shown(gx)+" and "+shown(gy)+" over "+places(x[:]...), integrals.Tri(inner, a, b, c), flows)
			}
		}
	}
}

// P9.4: integrals are additive in the polynomial.
func TestSumsOfPolynomials(t *testing.T) {
	for _, p := range few() {
		for _, q := range few() {
			sum := polys.Add(p, q)
			for _, l := range polygons() {
				equal(t, "Polygon", integrals.Polygon(sum, l...), fracs.Add(integrals.Polygon(p, l...), integrals.Polygon(q, l...)))
			}
			for _, x := range shapes()[:20] {
				a, b, c := x[0], x[1], x[2]
				equal(t, "Tri", integrals.Tri(sum, a, b, c), fracs.Add(integrals.Tri(p, a, b, c), integrals.Tri(q, a, b, c)))
				equal(t, "Seg", integrals.Seg(sum, a, b), fracs.Add(integrals.Seg(p, a, b), integrals.Seg(q, a, b)))
				equal(t, "Flow", integrals.Flow(sum, p, a, b), fracs.Add(integrals.Flow(p, p, a, b), integrals.Flow(q, nil, a, b)))
			}
		}
	}
}

// P9.4: integrals are additive in the domain, for points p inside, outside, on the sides and at the vertices.
func TestSumsOfDomains(t *testing.T) {
	for _, g := range few() {
		for i, x := range shapes() {
			a, b, c := x[0], x[1], x[2]
			whole := integrals.Tri(g, a, b, c)
			for _, p := range [][2]fracs.Frac{spots()[i%len(spots())], a, at("1/3", "1/3"), middle(a, b)} {
				sum := fracs.Sum(integrals.Tri(g, a, b, p), integrals.Tri(g, b, c, p), integrals.Tri(g, c, a, p))
				equal(t, shown(g)+" over "+places(a, b, c, p), whole, sum)
			}
		}
	}
}

// middle returns the middle of a and b.
func middle(a, b [2]fracs.Frac) [2]fracs.Frac {
	half := read("1/2")
	return [2]fracs.Frac{fracs.Mul(half, fracs.Add(a[0], b[0])), fracs.Mul(half, fracs.Add(a[1], b[1]))}
}

// P9.4: Seg is the mean of both halves.
func TestHalvesOfSegments(t *testing.T) {
	for _, g := range append(few(), dense(12)) {
		for _, x := range shapes() {
			a, b, m := x[0], x[1], middle(x[0], x[1])
			mean := fracs.Mul(read("1/2"), fracs.Add(integrals.Seg(g, a, m), integrals.Seg(g, m, b)))
			equal(t, shown(g)+" from "+places(a, b), integrals.Seg(g, a, b), mean)
			equal(t, shown(g)+" from "+places(a, b), integrals.Flow(g, g, a, b), fracs.Add(integrals.Flow(g, g, a, m), integrals.Flow(g, g, m, b)))
		}
	}
}

// P9.4: the other order negates the integral over a triangle or polygon and the flux; that along a segment stays.
func TestOrientation(t *testing.T) {
	for _, g := range few() {
		for _, x := range shapes() {
			a, b, c := x[0], x[1], x[2]
			v := integrals.Tri(g, a, b, c)
			for _, y := range [][3][2]fracs.Frac{{b, c, a}, {c, a, b}} {
				equal(t, "turned: "+shown(g)+" over "+places(a, b, c), integrals.Tri(g, y[0], y[1], y[2]), v)
			}
			for _, y := range [][3][2]fracs.Frac{{a, c, b}, {c, b, a}, {b, a, c}} {
				equal(t, "reversed: "+shown(g)+" over "+places(a, b, c), integrals.Tri(g, y[0], y[1], y[2]), fracs.Neg(v))
				equal(t, "reversed area: "+places(a, b, c), integrals.Area(y[0], y[1], y[2]), fracs.Neg(integrals.Area(a, b, c)))
			}
			equal(t, "Flow", integrals.Flow(g, power(1, 1), b, a), fracs.Neg(integrals.Flow(g, power(1, 1), a, b)))
			equal(t, "Seg", integrals.Seg(g, b, a), integrals.Seg(g, a, b))
		}
		for _, l := range polygons() {
			back := slices.Clone(l)
			slices.Reverse(back)
			equal(t, "Polygon of "+shown(g)+" over "+places(l...), integrals.Polygon(g, back...), fracs.Neg(integrals.Polygon(g, l...)))
		}
	}
}

// P9.4: the integral of the slope along a segment is the difference of the values at its ends.
func TestSlopeAlongSegment(t *testing.T) {
	for _, p := range append(simple(), steep()...) {
		for _, x := range shapes() {
			a, b := x[0], x[1]
			slope := polys.Add(polys.Scale(polys.Dx(p), fracs.Sub(b[0], a[0])), polys.Scale(polys.Dy(p), fracs.Sub(b[1], a[1])))
			equal(t, shown(p)+" from "+places(a, b), integrals.Seg(slope, a, b), fracs.Sub(polys.At(p, b[0], b[1]), polys.At(p, a[0], a[1])))
		}
	}
}
