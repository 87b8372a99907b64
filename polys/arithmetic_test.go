package polys_test

import (
	"math"
	"testing"

	"gusset/api"
	"gusset/fracs"
	"gusset/polys"
)

// P8.3: Add, Sub and Mul of all pairs, whose arguments need not be normalized; Mul beyond the greatest degree.
func TestSumsAndProducts(t *testing.T) {
	beyond := 0
	for _, a := range arguments() {
		for _, b := range arguments() {
			m, n := modelOf(a), modelOf(b)
			want(t, "Add", polys.Add(a, b), m.combined(rat("1"), n))
			want(t, "Sub", polys.Sub(a, b), m.combined(rat("-1"), n))
			p, e := polys.Mul(a, b)
			if m.degree()+n.degree() <= 12 || len(m) == 0 || len(n) == 0 {
				wantCode(t, "Mul", p, e, api.OK, m.times(n))
				continue
			}
			wantCode(t, "Mul", p, e, api.ErrDegree, model{})
			beyond++
		}
	}
	if beyond < 100 {
		t.Errorf("only %d products are beyond the greatest degree", beyond)
	}
}

// P8.3: Neg, and Scale by 0, 1, -1 and others.
func TestNegAndScale(t *testing.T) {
	for _, p := range arguments() {
		m := modelOf(p)
		want(t, "Neg", polys.Neg(p), model{}.combined(rat("-1"), m))
		for _, s := range []string{"0", "1", "-1", "2/3", "-7", "36893488147419103232/5"} {
			want(t, "Scale", polys.Scale(p, read(s)), model{}.combined(rat(s), m))
		}
	}
}

// P8.3: Pow with all exponents around those that are allowed.
func TestPow(t *testing.T) {
	for _, p := range arguments() {
		m := modelOf(p)
		for n := -2; n <= 14; n++ {
			q, e := polys.Pow(p, n)
			switch {
			case n < 0 || n > 12:
				wantCode(t, "Pow", q, e, api.ErrArg, model{})
			case n*m.degree() > 12:
				wantCode(t, "Pow", q, e, api.ErrDegree, model{})
			default:
				wantCode(t, "Pow", q, e, api.OK, m.power(n))
			}
		}
		for _, n := range []int{math.MinInt, -1 << 32, 1 << 32, math.MaxInt/12 + 1, math.MaxInt - 1, math.MaxInt} {
			q, e := polys.Pow(p, n)
			wantCode(t, "Pow", q, e, api.ErrArg, model{})
		}
	}
}

// P8.3: products and powers at the greatest degree, and of 0.
func TestGreatestDegree(t *testing.T) {
	x, y := polys.X(), polys.Y()
	sixth, _ := polys.Pow(polys.Add(x, y), 6)
	for _, c := range []struct{ what, got, want string }{
		{"0 to 0", texts(polys.Pow(nil, 0)), "1"}, {"0 to 1", texts(polys.Pow(nil, 1)), "0"}, {"0 to 12", texts(polys.Pow(polys.Poly{}, 12)), "0"}, {"0 to 13", texts(polys.Pow(nil, 13)), "error 1"},
		{"x^13 to 0", texts(polys.Pow(polys.Poly{term("1", 13, 0)}, 0)), "1"}, {"x^13 to 2", texts(polys.Pow(polys.Poly{term("1", 13, 0)}, 2)), "0"},
		{"x^12 to 0", texts(polys.Pow(polys.Poly{term("1", 12, 0)}, 0)), "1"}, {"x^12 to 1", texts(polys.Pow(polys.Poly{term("1", 12, 0)}, 1)), "x^12"}, {"x^12 to 2", texts(polys.Pow(polys.Poly{term("1", 12, 0)}, 2)), "error 9"},
		{"x y to 6", texts(polys.Pow(polys.Poly{term("-1", 1, 1)}, 6)), "x^6*y^6"}, {"x y to 7", texts(polys.Pow(polys.Poly{term("-1", 1, 1)}, 7)), "error 9"},
		{"x^2 y to 4", texts(polys.Pow(polys.Poly{term("2", 2, 1)}, 4)), "16*x^8*y^4"}, {"x^2 y to 5", texts(polys.Pow(polys.Poly{term("2", 2, 1)}, 5)), "error 9"}, {"x^2 y to -5", texts(polys.Pow(polys.Poly{term("2", 2, 1)}, -5)), "error 1"},
		{"2 to 12", texts(polys.Pow(polys.Const(fracs.Int(-2)), 12)), "4096"}, {"2 to 13", texts(polys.Pow(polys.Const(fracs.Int(2)), 13)), "error 1"},
		{"0 x^12", texts(polys.Mul(nil, polys.Poly{term("1", 12, 0)})), "0"}, {"x^12 0", texts(polys.Mul(polys.Poly{term("1", 12, 0)}, polys.Poly{term("0", 1, 0)})), "0"}, {"x^13 y", texts(polys.Mul(polys.Poly{term("1", 13, 0)}, y)), "0"},
		{"x^12 3", texts(polys.Mul(polys.Poly{term("1", 12, 0)}, polys.Const(fracs.Int(3)))), "3*x^12"}, {"x^12 y", texts(polys.Mul(polys.Poly{term("1", 12, 0)}, y)), "error 9"},
		{"the last term that cancels", texts(polys.Mul(polys.Poly{term("1", 12, 0), term("1", 1, 0), term("-1", 12, 0)}, polys.Poly{term("1", 11, 0)})), "x^12"},
		{"(x + y)^6 twice", texts(polys.Mul(sixth, sixth)), texts(polys.Pow(polys.Add(x, y), 12))},
	} {
		if c.got != c.want {
			t.Errorf("%s: %s, want %s", c.what, c.got, c.want)
		}
	}
	if s := texts(polys.Pow(polys.Add(x, y), 12)); s != "x^12 + 12*x^11*y + 66*x^10*y^2 + 220*x^9*y^3 + 495*x^8*y^4 + 792*x^7*y^5 + 924*x^6*y^6 + 792*x^5*y^7 + 495*x^4*y^8 + 220*x^3*y^9 + 66*x^2*y^10 + 12*x*y^11 + y^12" {
		t.Error(s)
	}
}
