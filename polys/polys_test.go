package polys_test

import (
	"math"
	"reflect"
	"slices"
	"testing"

	"gusset/api"
	"gusset/fracs"
	"gusset/polys"
)

// P8.1: Ok of polynomials that are normalized, and of such as miss it by one thing.
func TestOk(t *testing.T) {
	for _, x := range []struct {
		p    polys.Poly
		want bool
	}{
		{nil, true}, {polys.Poly{}, true}, {polys.Poly{term("1", 0, 0)}, true}, {polys.Poly{term("-1/2", 12, 0)}, true}, {polys.Poly{term("3", 0, 12)}, true},
		{polys.Poly{term("1", 0, 0), term("1", 1, 0), term("1", 0, 1), term("1", 2, 0), term("1", 1, 1), term("1", 0, 2), term("1", 3, 0)}, true},
		{polys.Poly{term("1", 0, 2), term("1", 3, 0)}, true}, {polys.Poly{term("1", 5, 7), term("1", 0, 12)}, true},
		{polys.Poly{term("0", 0, 0)}, false}, {polys.Poly{term("1", 0, 0), term("0", 1, 0), term("1", 0, 1)}, false}, {polys.Poly{term("1", 0, 0), term("0", 1, 0)}, false},
		{polys.Poly{term("1", 0, 1), term("1", 1, 0)}, false}, {polys.Poly{term("1", 1, 0), term("1", 0, 0)}, false}, {polys.Poly{term("1", 3, 0), term("1", 0, 2)}, false},
		{polys.Poly{term("1", 1, 1), term("1", 2, 0)}, false}, {polys.Poly{term("1", 0, 0), term("1", 0, 1), term("1", 1, 0)}, false},
		{polys.Poly{term("1", 1, 0), term("1", 1, 0)}, false}, {polys.Poly{term("1", 0, 0), term("2", 0, 0)}, false}, {polys.Poly{term("1", 0, 0), term("1", 1, 1), term("-1", 1, 1)}, false},
		{polys.Poly{term("1", 13, 0)}, false}, {polys.Poly{term("1", 0, 13)}, false}, {polys.Poly{term("1", 6, 7)}, false}, {polys.Poly{term("1", 0, 0), term("1", 12, 1)}, false},
		{polys.Poly{term("1", -1, 0)}, false}, {polys.Poly{term("1", 0, -1)}, false}, {polys.Poly{term("1", -1, 2)}, false}, {polys.Poly{term("1", 2, -1)}, false},
		{polys.Poly{term("1", math.MaxInt, 1)}, false}, {polys.Poly{term("1", math.MaxInt, math.MaxInt)}, false}, {polys.Poly{term("1", math.MinInt, math.MinInt)}, false},
	} {
		if polys.Ok(x.p) != x.want {
			t.Errorf("Ok(%s): %t", shown(x.p), !x.want)
		}
	}
	for _, p := range arguments() {
		if polys.Ok(p) != slices.Equal(p, modelOf(p).poly()) {
			t.Errorf("Ok(%s): %t", shown(p), polys.Ok(p))
		}
	}
}

// P8.1: Of sums the terms of each argument, whatever their order.
func TestOf(t *testing.T) {
	for _, p := range arguments() {
		q, e := polys.Of(p...)
		if slices.ContainsFunc(p, func(x polys.Term) bool { return x.I < 0 || x.J < 0 }) {
			wantCode(t, "Of", q, e, api.ErrArg, model{})
			continue
		}
		if slices.ContainsFunc(p, func(x polys.Term) bool { return x.I+x.J > 12 }) {
			wantCode(t, "Of", q, e, api.ErrDegree, model{})
			continue
		}
		for range len(p) + 1 {
			wantCode(t, "Of", q, e, api.OK, modelOf(p))
			p = slices.Concat(p[len(p)/2:], p[:len(p)/2])
			slices.Reverse(p)
			q, e = polys.Of(p...)
		}
	}
}

// P8.1: Of many terms, of all powers and each often.
func TestOfMany(t *testing.T) {
	s := &series{803}
	var l []polys.Term
	for range 5000 {
		i := s.below(13)
		l = append(l, polys.Term{I: i, J: s.below(13 - i), C: fracs.Int(int64(s.below(7) - 3))})
	}
	p, e := polys.Of(l...)
	wantCode(t, "Of", p, e, api.OK, modelOf(l))
}

// P8.1: each pair of exponents at the ends of what is valid and of what an int may be, with any coefficient.
func TestOfExponents(t *testing.T) {
	ends := []int{math.MinInt, math.MinInt + 1, -13, -2, -1, 0, 1, 2, 5, 6, 7, 11, 12, 13, 14, 1 << 32, math.MaxInt - 12, math.MaxInt - 1, math.MaxInt}
	for _, i := range ends {
		for _, j := range ends {
			code := api.OK
			switch {
			case i < 0 || j < 0:
				code = api.ErrArg
			case i > 12 || j > 12 || i+j > 12:
				code = api.ErrDegree
			}
			for _, c := range []string{"0", "1", "-2/3"} {
				l := []polys.Term{term("4", 0, 0), term(c, i, j), term("1", 2, 2)}
				p, e := polys.Of(l...)
				wantCode(t, "Of", p, e, code, modelOf(l))
				p, e = polys.Of(l[1])
				wantCode(t, "Of", p, e, code, modelOf(l[1:2]))
				if polys.Ok(polys.Poly{l[1]}) != (code == api.OK && c != "0") {
					t.Fatalf("Ok(%s x^%d y^%d): %t", c, i, j, polys.Ok(polys.Poly{l[1]}))
				}
			}
		}
	}
}

// P8.1 and R2: the first invalid term determines the error.
func TestFirstInvalidTerm(t *testing.T) {
	good, negative, beyond := term("1", 1, 1), term("1", 0, -1), term("1", 7, 6)
	for _, x := range []struct {
		l []polys.Term
		e api.Errno
	}{
		{[]polys.Term{negative, beyond}, api.ErrArg}, {[]polys.Term{beyond, negative}, api.ErrDegree}, {[]polys.Term{good, negative, beyond}, api.ErrArg},
		{[]polys.Term{good, beyond, good, negative}, api.ErrDegree}, {[]polys.Term{good, good, term("0", 20, 0), negative}, api.ErrDegree},
		{[]polys.Term{term("0", -1, 0), beyond}, api.ErrArg}, {[]polys.Term{term("1", -1, 99)}, api.ErrArg}, {[]polys.Term{term("1", 99, -1)}, api.ErrArg},
		{[]polys.Term{beyond, {I: 7, J: 6, C: fracs.Int(-1)}}, api.ErrDegree},
	} {
		p, e := polys.Of(x.l...)
		wantCode(t, "Of", p, e, x.e, model{})
	}
}

// P8.1: Const, X and Y.
func TestConstants(t *testing.T) {
	for _, s := range []string{"0", "1", "-1", "7/3", "-340282366920938463463374607431768211455/2"} {
		want(t, "Const", polys.Const(read(s)), modelOf(polys.Poly{term(s, 0, 0)}))
	}
	want(t, "X", polys.X(), modelOf(polys.Poly{term("1", 1, 0)}))
	want(t, "Y", polys.Y(), modelOf(polys.Poly{term("1", 0, 1)}))
}

// The chapter's types: a Term has three fields, of which values may be compared, and a Poly is a slice of them.
func TestTypes(t *testing.T) {
	var p polys.Poly = []polys.Term{{I: 1, J: 2, C: fracs.Int(3)}}
	if p[0] != (polys.Term{1, 2, fracs.Int(3)}) || reflect.TypeFor[polys.Term]().NumField() != 3 {
		t.Error("a term is not made of I, J and C")
	}
	if reflect.TypeFor[polys.Poly]().NumMethod() != 0 || reflect.PointerTo(reflect.TypeFor[polys.Term]()).NumMethod() != 0 {
		t.Error("methods are exported")
	}
}

// texts returns the text of p, or the number of the error.
func texts(p polys.Poly, e api.Errno) string {
	if e != api.OK {
		return "error " + fracs.Text(fracs.Int(int64(e)))
	}
	return polys.Text(p)
}

// The chapter's table of examples.
func TestExamples(t *testing.T) {
	x, y, one, zero := polys.X(), polys.Y(), fracs.Int(1), fracs.Int(0)
	for _, c := range []struct{ what, got, want string }{
		{"Text", polys.Text(polys.Poly{term("-1/2", 0, 0), term("1", 1, 0), term("-3", 1, 2)}), "-1/2 + x - 3*x*y^2"},
		{"Of(x^2, 2 x y, -x^2)", texts(polys.Of(term("1", 2, 0), term("2", 1, 1), term("-1", 2, 0))), "2*x*y"},
		{"Of(x^-1)", texts(polys.Of(term("1", -1, 0))), "error 1"},
		{"Of(0 x^13)", texts(polys.Of(term("0", 13, 0))), "error 9"},
		{"Mul(x + y, x - y)", texts(polys.Mul(polys.Add(x, y), polys.Sub(x, y))), "x^2 - y^2"},
		{"Pow(x + 1, 3)", texts(polys.Pow(polys.Add(x, polys.Const(one)), 3)), "1 + 3*x + 3*x^2 + x^3"},
		{"Mul(x^7, y^6)", texts(polys.Mul(polys.Poly{term("1", 7, 0)}, polys.Poly{term("1", 0, 6)})), "error 9"},
		{"Dx(x^2*y)", polys.Text(polys.Dx(polys.Poly{term("1", 2, 1)})), "2*x*y"},
		{"Laplace(x^3 + y^2)", polys.Text(polys.Laplace(polys.Poly{term("1", 3, 0), term("1", 0, 2)})), "2 + 6*x"},
		{"Shift(x*y, 0 1 0, 1 0 2)", polys.Text(polys.Shift(polys.Poly{term("1", 1, 1)}, zero, one, zero, one, zero, fracs.Int(2))), "2*y + x*y"},
		{"Degree(0)", fracs.Text(fracs.Int(int64(polys.Degree(nil)))), "-1"},
		{"At(x^2 + y, 1/2, 3)", fracs.Text(polys.At(polys.Poly{term("1", 2, 0), term("1", 0, 1)}, read("1/2"), fracs.Int(3))), "13/4"},
		{"Coef(5 + x, 1, 0)", fracs.Text(polys.Coef(polys.Poly{term("5", 0, 0), term("1", 1, 0)}, 1, 0)), "1"},
	} {
		if c.got != c.want {
			t.Errorf("%s: %s, want %s", c.what, c.got, c.want)
		}
	}
}
