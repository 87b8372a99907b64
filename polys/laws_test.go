package polys_test

import (
	"testing"

	"gusset/api"
	"gusset/fracs"
	"gusset/polys"
)

// samples returns polynomials of the degrees -1 to 4, some of them not normalized.
func samples() []polys.Poly {
	list := []polys.Poly{nil, polys.Const(fracs.Int(1)), polys.X(), polys.Y(), dense(1), dense(2), dense(3), {term("1", 0, 2), term("3", 1, 0), term("-1", 2, 0)}}
	s := &series{804}
	for i := range 8 {
		list = append(list, s.terms(5, 1+i%4))
	}
	return list
}

// mul returns a b, whose degree is at most 12.
func mul(t *testing.T, a, b polys.Poly) polys.Poly {
	t.Helper()
	p, e := polys.Mul(a, b)
	if e != api.OK {
		t.Fatalf("error %d", e)
	}
	return p
}

// same fails unless a and b are equal: as polynomials, in their texts and, as they are normalized, in their terms.
func same(t *testing.T, law string, a, b polys.Poly) {
	t.Helper()
	if !polys.Same(a, b) || polys.Text(a) != polys.Text(b) {
		t.Fatalf("%s: %s and %s", law, polys.Text(a), polys.Text(b))
	}
	want(t, law, a, modelOf(b))
}

// P8.6: polynomials form a commutative ring.
func TestRingLaws(t *testing.T) {
	zero, one := polys.Const(fracs.Int(0)), polys.Const(fracs.Int(1))
	for _, a := range samples() {
		same(t, "0", polys.Add(a, zero), polys.Sub(a, zero))
		same(t, "1", mul(t, a, one), polys.Add(a, zero))
		same(t, "0 times", mul(t, zero, a), zero)
		same(t, "negative", polys.Add(a, polys.Neg(a)), zero)
		for _, b := range samples() {
			same(t, "sums commute", polys.Add(a, b), polys.Add(b, a))
			same(t, "products commute", mul(t, a, b), mul(t, b, a))
			same(t, "difference", polys.Sub(a, b), polys.Add(a, polys.Neg(b)))
			same(t, "difference and sum", polys.Add(polys.Sub(a, b), b), polys.Add(a, zero))
			for _, c := range samples() {
				same(t, "sums associate", polys.Add(polys.Add(a, b), c), polys.Add(a, polys.Add(b, c)))
				same(t, "products associate", mul(t, mul(t, a, b), c), mul(t, a, mul(t, b, c)))
				same(t, "products distribute", mul(t, a, polys.Add(b, c)), polys.Add(mul(t, a, b), mul(t, a, c)))
			}
		}
	}
}

// P8.6: evaluation at a point is a ring homomorphism, and the degree of a product is the sum of the degrees.
func TestValuesAndDegrees(t *testing.T) {
	points := [][2]fracs.Frac{{read("1/2"), read("-3")}, {read("0"), read("5/7")}, {read("-2"), read("0")}, {read("11/3"), read("-1/9")}}
	for _, a := range samples() {
		for _, b := range samples() {
			product := mul(t, a, b)
			if a, b := polys.Degree(a), polys.Degree(b); a >= 0 && b >= 0 && polys.Degree(product) != a+b {
				t.Fatalf("degrees %d and %d give %d", a, b, polys.Degree(product))
			}
			for _, p := range points {
				x, y := polys.At(a, p[0], p[1]), polys.At(b, p[0], p[1])
				if polys.At(polys.Add(a, b), p[0], p[1]) != fracs.Add(x, y) || polys.At(polys.Sub(a, b), p[0], p[1]) != fracs.Sub(x, y) || polys.At(product, p[0], p[1]) != fracs.Mul(x, y) {
					t.Fatalf("the values of %s and %s", polys.Text(a), polys.Text(b))
				}
			}
		}
	}
}

// P8.3: powers are products, and Scale is multiplication by a constant.
func TestPowerLaws(t *testing.T) {
	for _, a := range samples() {
		product := polys.Const(fracs.Int(1))
		for n := range 4 {
			p, e := polys.Pow(a, n)
			if e != api.OK {
				t.Fatalf("error %d", e)
			}
			same(t, "power", p, product)
			product = mul(t, product, a)
		}
		for _, c := range []fracs.Frac{fracs.Int(0), fracs.Int(-1), read("5/6")} {
			same(t, "scale", polys.Scale(a, c), mul(t, polys.Const(c), a))
		}
	}
}

// P8.6: derivatives commute and satisfy the product rule, and Laplace is the sum of the second ones.
func TestDerivativeLaws(t *testing.T) {
	for _, a := range samples() {
		same(t, "derivatives commute", polys.Dx(polys.Dy(a)), polys.Dy(polys.Dx(a)))
		same(t, "Laplace", polys.Laplace(a), polys.Add(polys.Dx(polys.Dx(a)), polys.Dy(polys.Dy(a))))
		for _, b := range samples() {
			for _, d := range []func(polys.Poly) polys.Poly{polys.Dx, polys.Dy} {
				same(t, "product rule", d(mul(t, a, b)), polys.Add(mul(t, d(a), b), mul(t, a, d(b))))
				same(t, "sum rule", d(polys.Add(a, b)), polys.Add(d(a), d(b)))
			}
		}
	}
}

// P8.6: the derivative of a Shift, and its value at a point.
func TestShiftLaws(t *testing.T) {
	for _, p := range append(samples(), dense(7), dense(12)) {
		for _, l := range maps() {
			q := shift(p, l)
			dx, dy := shift(polys.Dx(p), l), shift(polys.Dy(p), l)
			same(t, "Dx of Shift", polys.Dx(q), polys.Add(polys.Scale(dx, frac(l[0])), polys.Scale(dy, frac(l[3]))))
			same(t, "Dy of Shift", polys.Dy(q), polys.Add(polys.Scale(dx, frac(l[1])), polys.Scale(dy, frac(l[4]))))
			if polys.Degree(q) > polys.Degree(p) {
				t.Fatalf("the degree of a Shift is %d instead of %d", polys.Degree(q), polys.Degree(p))
			}
			for _, at := range [][2]fracs.Frac{{read("1/2"), read("-3")}, {read("0"), read("0")}, {read("-7/4"), read("2/5")}} {
				x := fracs.Sum(fracs.Mul(frac(l[0]), at[0]), fracs.Mul(frac(l[1]), at[1]), frac(l[2]))
				y := fracs.Sum(fracs.Mul(frac(l[3]), at[0]), fracs.Mul(frac(l[4]), at[1]), frac(l[5]))
				if polys.At(q, at[0], at[1]) != polys.At(p, x, y) {
					t.Fatalf("the value of a Shift of %s", polys.Text(p))
				}
			}
		}
	}
}

// P8.6: Shift is a ring homomorphism.
func TestShiftOfProducts(t *testing.T) {
	for _, a := range samples() {
		for _, b := range samples() {
			for _, l := range maps() {
				same(t, "Shift of a product", shift(mul(t, a, b), l), mul(t, shift(a, l), shift(b, l)))
			}
		}
	}
}

// P8.6: two polynomials are equal exactly if their texts are.
func TestTextLaw(t *testing.T) {
	for _, a := range arguments() {
		for _, b := range arguments() {
			if polys.Same(a, b) != (polys.Text(a) == polys.Text(b)) {
				t.Fatalf("%s and %s: %t, %s and %s", shown(a), shown(b), polys.Same(a, b), polys.Text(a), polys.Text(b))
			}
		}
	}
}
