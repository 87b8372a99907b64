package integrals_test

import (
	"math/big"
	"testing"

	"gusset/api"
	"gusset/fracs"
	"gusset/integrals"
	"gusset/ints"
	"gusset/nats"
	"gusset/polys"
)

// area returns half of (bx - ax)(cy - ay) - (cx - ax)(by - ay).
func area(a, b, c [2]fracs.Frac) *big.Rat {
	product := func(x, y curve) *big.Rat { return new(big.Rat).Mul(x[1], y[1]) }
	one, other := product(between(a[0], b[0]), between(a[1], c[1])), product(between(a[0], c[0]), between(a[1], b[1]))
	return new(big.Rat).Mul(rat("1/2"), new(big.Rat).Sub(one, other))
}

// P9.2: Area of triangles in either order, and of degenerate ones.
func TestArea(t *testing.T) {
	for _, x := range triangles() {
		want(t, "Area of "+places(x[:]...), integrals.Area(x[0], x[1], x[2]), area(x[0], x[1], x[2]))
	}
	for _, x := range []struct {
		a, b, c [2]fracs.Frac
		want    string
	}{
		{at("0", "0"), at("1", "0"), at("0", "1"), "1/2"}, {at("0", "0"), at("0", "1"), at("1", "0"), "-1/2"}, {at("1", "0"), at("0", "0"), at("0", "3"), "-3/2"},
		{at("1/3", "1"), at("4/3", "1"), at("0", "1/2"), "-1/4"}, {at("1", "2"), at("1", "2"), at("5", "7"), "0"}, {at("0", "0"), at("1", "3"), at("-2", "-6"), "0"},
	} {
		want(t, "Area of "+places(x.a, x.b, x.c), integrals.Area(x.a, x.b, x.c), rat(x.want))
	}
}

// P9.2: Tri of polynomials of low degrees over triangles of all kinds.
func TestTri(t *testing.T) {
	for n, p := range simple() {
		for i, x := range triangles() {
			if i%3 == n%3 {
				want(t, "Tri of "+shown(p)+" over "+places(x[:]...), integrals.Tri(p, x[0], x[1], x[2]), ring(p, x[:]...))
			}
		}
	}
}

// P9.2: Tri of polynomials of high degrees.
func TestTriOfHighDegrees(t *testing.T) {
	for _, p := range steep() {
		for i, x := range triangles() {
			if i%61 == 0 || i < 4 {
				want(t, "Tri of "+shown(p)+" over "+places(x[:]...), integrals.Tri(p, x[0], x[1], x[2]), ring(p, x[:]...))
			}
		}
	}
}

// P9.2: the integral of 1 is the signed area.
func TestTriOfOne(t *testing.T) {
	for _, x := range triangles() {
		equal(t, places(x[:]...), integrals.Tri(power(0, 0), x[0], x[1], x[2]), integrals.Area(x[0], x[1], x[2]))
	}
}

// Definitions: the signed integral is 0 where the area is 0.
func TestTriWithoutArea(t *testing.T) {
	a, b, c := at("1/2", "1"), at("3/2", "4"), at("-1/2", "-2")
	for _, p := range append(simple(), steep()...) {
		for _, x := range [][3][2]fracs.Frac{{a, b, c}, {c, b, a}, {a, a, b}, {a, b, a}, {b, a, a}, {c, c, c}} {
			equal(t, shown(p)+" over "+places(x[:]...), integrals.Tri(p, x[0], x[1], x[2]), fracs.Int(0))
		}
	}
}

// long returns a number of far more digits than MaxDigits.
func long(t *testing.T) fracs.Frac {
	t.Helper()
	n, e := nats.Pow(nats.Of(1<<62+1), 300)
	if e != api.OK {
		t.Fatalf("error %d", e)
	}
	x, e := fracs.From(ints.From(true, n), nats.Of(2))
	if e != api.OK {
		t.Fatalf("error %d", e)
	}
	return x
}

// The section Terms: numbers have no size limit.
func TestLongNumbers(t *testing.T) {
	n, zero := long(t), fracs.Int(0)
	o, a, b := [2]fracs.Frac{}, [2]fracs.Frac{n, zero}, [2]fracs.Frac{zero, n}
	square := fracs.Square(n)
	equal(t, "Area", integrals.Area(o, a, b), fracs.Mul(read("1/2"), square))
	equal(t, "Tri", integrals.Tri(power(2, 1), o, a, b), fracs.Mul(fracs.Mul(read("1/60"), n), fracs.Square(square)))
	equal(t, "Polygon", integrals.Polygon(power(1, 1), o, a, [2]fracs.Frac{n, n}, b), fracs.Mul(read("1/4"), fracs.Square(square)))
	equal(t, "Seg", integrals.Seg(power(2, 1), a, b), fracs.Mul(fracs.Mul(read("1/12"), n), square))
	equal(t, "Flow", integrals.Flow(power(1, 0), power(0, 2), a, b), fracs.Mul(fracs.Add(read("1/2"), fracs.Mul(read("1/3"), n)), square))
	equal(t, "Tri of n", integrals.Tri(polys.Const(n), at("0", "0"), at("1", "0"), at("0", "1")), fracs.Mul(read("1/2"), n))
}

// P9.2: Polygon of polygons of all kinds.
func TestPolygon(t *testing.T) {
	for _, p := range append(simple(), dense(5), dense(12)) {
		for _, l := range polygons() {
			want(t, "Polygon of "+shown(p)+" over "+places(l...), integrals.Polygon(p, l...), ring(p, l...))
		}
	}
}

// P9.2: Polygon is the sum over the triangles that have the first point.
func TestPolygonOfTriangles(t *testing.T) {
	for _, p := range simple() {
		for _, l := range polygons() {
			sum := fracs.Int(0)
			for i := range len(l) - 2 {
				sum = fracs.Add(sum, integrals.Tri(p, l[0], l[i+1], l[i+2]))
			}
			equal(t, shown(p)+" over "+places(l...), integrals.Polygon(p, l...), sum)
		}
	}
}

// P9.2: Polygon of fewer than three points is 0.
func TestPolygonOfFewPoints(t *testing.T) {
	a, b := at("1", "2"), at("5", "-1/3")
	for _, p := range append(simple(), steep()...) {
		for _, l := range [][][2]fracs.Frac{nil, {}, {a}, {b}, {a, b}, {a, a}} {
			equal(t, shown(p)+" over "+places(l...), integrals.Polygon(p, l...), fracs.Int(0))
		}
	}
}

// Definitions: a polynomial with an invalid term is 0, so all its integrals are.
func TestInvalid(t *testing.T) {
	a, b, c := at("1", "2"), at("5", "-1/3"), at("6", "6")
	for _, p := range invalid() {
		for _, v := range []fracs.Frac{integrals.Tri(p, a, b, c), integrals.Polygon(p, a, b, c), integrals.Seg(p, a, b), integrals.Flow(p, nil, a, b), integrals.Flow(nil, p, a, b)} {
			equal(t, shown(p), v, fracs.Int(0))
		}
	}
}

// Definitions: an argument that is not normalized is the same as the polynomial that it represents.
func TestNotNormalized(t *testing.T) {
	a, b, c := at("1", "2"), at("5", "-1/3"), at("6", "6")
	s := &series{904}
	for i := range 60 {
		p := s.terms(8, 1+i%12)
		q, e := polys.Of(p...)
		if e != api.OK {
			t.Fatalf("error %d", e)
		}
		equal(t, "Tri of "+shown(p), integrals.Tri(p, a, b, c), integrals.Tri(q, a, b, c))
		equal(t, "Polygon of "+shown(p), integrals.Polygon(p, a, c, b), integrals.Polygon(q, a, c, b))
		equal(t, "Seg of "+shown(p), integrals.Seg(p, a, b), integrals.Seg(q, a, b))
		equal(t, "Flow of "+shown(p), integrals.Flow(p, p, a, b), integrals.Flow(q, q, a, b))
	}
}
