package polys_test

import (
	"math"
	"math/big"
	"testing"

	"gusset/api"
	"gusset/fracs"
	"gusset/ints"
	"gusset/nats"
	"gusset/polys"
)

// P8.2: Coef of all powers, and of those that no term has.
func TestCoef(t *testing.T) {
	for _, p := range arguments() {
		m := modelOf(p)
		for i := -2; i <= 14; i++ {
			for j := -2; j <= 14; j++ {
				c := m[[2]int{i, j}]
				if c == nil {
					c = new(big.Rat)
				}
				if got := polys.Coef(p, i, j); got != frac(c) {
					t.Fatalf("Coef(%s, %d, %d): %s, want %s", shown(p), i, j, fracs.Text(got), c)
				}
			}
		}
		for _, i := range []int{math.MinInt, math.MaxInt} {
			if polys.Coef(p, i, 0) != (fracs.Frac{}) || polys.Coef(p, 0, i) != (fracs.Frac{}) || polys.Coef(p, i, i) != (fracs.Frac{}) || polys.Coef(p, i, -i) != (fracs.Frac{}) {
				t.Fatalf("%s has a coefficient of the power %d", shown(p), i)
			}
		}
	}
}

// P8.2: Coef of an invalid term is 0, though the term is there.
func TestCoefOfInvalid(t *testing.T) {
	for _, p := range invalid() {
		for _, x := range p {
			if c := polys.Coef(p, x.I, x.J); c != (fracs.Frac{}) {
				t.Errorf("Coef(%s, %d, %d): %s", shown(p), x.I, x.J, fracs.Text(c))
			}
		}
	}
}

// P8.2: Degree, also of what is not normalized.
func TestDegree(t *testing.T) {
	for _, p := range arguments() {
		if d := polys.Degree(p); d != modelOf(p).degree() {
			t.Errorf("Degree(%s): %d, want %d", shown(p), d, modelOf(p).degree())
		}
	}
}

// P8.2: At, at points around 0 and 1, and at others.
func TestAt(t *testing.T) {
	numbers := []*big.Rat{rat("0"), rat("1"), rat("-1"), rat("1/2"), rat("-3"), rat("7/5"), rat("-18446744073709551617/3")}
	for _, p := range arguments() {
		m := modelOf(p)
		for _, x := range numbers {
			for _, y := range numbers {
				if v := polys.At(p, frac(x), frac(y)); v != frac(m.at(x, y)) {
					t.Fatalf("At(%s, %s, %s): %s, want %s", shown(p), x, y, fracs.Text(v), m.at(x, y))
				}
			}
		}
	}
}

// The section Terms: numbers have no size limit. So At does not stop where fracs.Pow does.
func TestAtOfLongNumbers(t *testing.T) {
	n, e := nats.Pow(nats.Of(1<<62+1), 4000)
	if e != api.OK {
		t.Fatalf("error %d", e)
	}
	x, e := fracs.From(ints.From(true, n), nats.Of(2))
	if e != api.OK {
		t.Fatalf("error %d", e)
	}
	if _, e := fracs.Pow(x, 4); e != api.ErrLimit {
		t.Fatalf("the number is too short: error %d", e)
	}
	fourth := fracs.Square(fracs.Square(x))
	for _, p := range []polys.Poly{{term("5", 4, 0)}, {term("5", 0, 4)}, {term("5", 2, 2)}} {
		if polys.At(p, x, x) != fracs.Mul(fracs.Int(5), fourth) {
			t.Errorf("%s is wrong for a long number", polys.Text(p))
		}
	}
	shifted := polys.Shift(polys.Poly{term("1", 4, 0)}, fracs.Int(0), x, fracs.Int(0), x, x, x)
	if !polys.Same(shifted, polys.Poly{{J: 4, C: fourth}}) {
		t.Error("Shift is wrong for a long number")
	}
	p, e := polys.Pow(polys.Poly{{I: 1, C: x}}, 4)
	if !polys.Same(p, polys.Poly{{I: 4, C: fourth}}) || e != api.OK {
		t.Errorf("Pow is wrong for a long number: error %d", e)
	}
}

// P8.2: Same of all pairs: equal polynomials may differ in form.
func TestSame(t *testing.T) {
	equal := 0
	for i, a := range arguments() {
		for j, b := range arguments() {
			want := len(modelOf(a).combined(rat("-1"), modelOf(b))) == 0
			if polys.Same(a, b) != want {
				t.Fatalf("Same(%s, %s): %t", shown(a), shown(b), !want)
			}
			if want && i != j {
				equal++
			}
		}
	}
	if equal < 100 {
		t.Errorf("only %d pairs are equal", equal)
	}
}

// P8.2: Same of polynomials that differ in one thing.
func TestSameOfAlike(t *testing.T) {
	p := polys.Poly{term("1", 1, 0), term("1/2", 2, 3)}
	for _, q := range []polys.Poly{
		{term("1", 0, 1), term("1/2", 2, 3)}, {term("1", 1, 0), term("1/2", 3, 2)}, {term("1", 1, 0), term("-1/2", 2, 3)}, {term("1", 1, 0), term("1/3", 2, 3)},
		{term("1", 1, 0)}, {term("1/2", 2, 3)}, {term("1", 0, 0), term("1", 1, 0), term("1/2", 2, 3)}, {term("1", 1, 0), term("1/2", 2, 3), term("1", 0, 12)}, {term("1", 1, 0), term("1/2", 2, 3), term("0", 0, 13)},
	} {
		if polys.Same(p, q) || polys.Same(q, p) {
			t.Errorf("%s is the same as %s", shown(p), shown(q))
		}
	}
	for _, q := range []polys.Poly{{term("1/2", 2, 3), term("1", 1, 0)}, {term("1", 1, 0), term("1/4", 2, 3), term("0", 5, 5), term("1/4", 2, 3)}} {
		if !polys.Same(p, q) || !polys.Same(q, p) {
			t.Errorf("%s is not the same as %s", shown(p), shown(q))
		}
	}
}
