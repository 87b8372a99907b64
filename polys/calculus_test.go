package polys_test

import (
	"math/big"
	"testing"

	"gusset/fracs"
	"gusset/polys"
)

// P8.4: Dx, Dy and Laplace.
func TestDerivatives(t *testing.T) {
	for _, p := range arguments() {
		m := modelOf(p)
		want(t, "Dx", polys.Dx(p), m.dx())
		want(t, "Dy", polys.Dy(p), m.dy())
		want(t, "Laplace", polys.Laplace(p), m.dx().dx().combined(rat("1"), m.dy().dy()))
	}
}

// P8.4: derivatives of each monomial, also where nothing of it remains.
func TestDerivativesOfMonomials(t *testing.T) {
	for i := range 13 {
		for j := range 13 - i {
			p := polys.Poly{term("2/3", i, j)}
			dx, dy, laplace := model{}, model{}, model{}
			if i > 0 {
				dx.plus(i-1, j, big.NewRat(int64(2*i), 3))
			}
			if j > 0 {
				dy.plus(i, j-1, big.NewRat(int64(2*j), 3))
			}
			if i > 1 {
				laplace.plus(i-2, j, big.NewRat(int64(2*i*(i-1)), 3))
			}
			if j > 1 {
				laplace.plus(i, j-2, big.NewRat(int64(2*j*(j-1)), 3))
			}
			want(t, "Dx", polys.Dx(p), dx)
			want(t, "Dy", polys.Dy(p), dy)
			want(t, "Laplace", polys.Laplace(p), laplace)
		}
	}
}

// P8.4: what the Laplacian cancels.
func TestHarmonic(t *testing.T) {
	for _, p := range []polys.Poly{{term("1", 1, 1)}, {term("1", 2, 0), term("-1", 0, 2)}, {term("1", 3, 0), term("-3", 1, 2)}, {term("5", 0, 0), term("1", 1, 0)}} {
		if q := polys.Laplace(p); len(q) != 0 {
			t.Errorf("Laplace(%s): %s", polys.Text(p), polys.Text(q))
		}
	}
}

// maps returns the coefficients of affine maps: the identity, a constant, those that lose a direction, and others.
func maps() [][6]*big.Rat {
	var list [][6]*big.Rat
	for _, l := range [][6]string{
		{"1", "0", "0", "0", "1", "0"}, {"0", "1", "0", "1", "0", "0"}, {"0", "0", "0", "0", "0", "0"}, {"0", "0", "2/3", "0", "0", "-5"},
		{"-1", "0", "0", "0", "1", "0"}, {"1", "0", "1/2", "0", "1", "-1"}, {"1", "1", "0", "1", "1", "0"}, {"1", "2", "3", "0", "0", "0"},
		{"0", "0", "0", "1/4", "-2", "1"}, {"2", "-1/3", "5", "1/7", "4", "-3/2"}, {"0", "3", "0", "0", "0", "1"},
	} {
		var m [6]*big.Rat
		for i, s := range l {
			m[i] = rat(s)
		}
		list = append(list, m)
	}
	return list
}

// shift returns p, shifted by the map l.
func shift(p polys.Poly, l [6]*big.Rat) polys.Poly {
	return polys.Shift(p, frac(l[0]), frac(l[1]), frac(l[2]), frac(l[3]), frac(l[4]), frac(l[5]))
}

// P8.4: Shift of what is of low degree, or has few terms.
func TestShift(t *testing.T) {
	for _, p := range arguments() {
		if len(p) > 30 {
			continue // the model takes its time for these
		}
		for _, l := range maps() {
			want(t, "Shift", shift(p, l), modelOf(p).shifted(l))
		}
	}
}

// P8.4: each of Shift's coefficients is where it belongs, and Shift of the greatest degree.
func TestShiftOfGreatestDegree(t *testing.T) {
	one, zero := fracs.Int(1), fracs.Int(0)
	binomial, _ := polys.Pow(polys.Poly{term("2", 1, 0), term("3", 0, 1), term("5", 0, 0)}, 12)
	other, _ := polys.Pow(polys.Poly{term("7", 1, 0), term("11", 0, 1), term("13", 0, 0)}, 12)
	for _, c := range []struct {
		p, want polys.Poly
	}{
		{polys.X(), polys.Poly{term("2", 1, 0), term("3", 0, 1), term("5", 0, 0)}}, {polys.Y(), polys.Poly{term("7", 1, 0), term("11", 0, 1), term("13", 0, 0)}},
		{polys.Poly{term("1", 12, 0)}, binomial}, {polys.Poly{term("-2", 0, 12)}, polys.Scale(other, fracs.Int(-2))}, {polys.Const(one), polys.Const(one)},
	} {
		got := polys.Shift(c.p, fracs.Int(2), fracs.Int(3), fracs.Int(5), fracs.Int(7), fracs.Int(11), fracs.Int(13))
		want(t, "Shift", got, modelOf(c.want))
	}
	p := dense(12)
	want(t, "Shift by the identity", polys.Shift(p, one, zero, zero, zero, one, zero), modelOf(p))
	want(t, "Shift by the exchange", polys.Shift(p, zero, one, zero, one, zero, zero), modelOf(p).turned())
}
