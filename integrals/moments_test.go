package integrals_test

import (
	"fmt"
	"math"
	"math/big"
	"testing"

	"gusset/api"
	"gusset/fracs"
	"gusset/integrals"
	"gusset/polys"
)

// moment returns 2 i! j! k! / (i + j + k + 2)!.
func moment(i, j, k int) *big.Rat {
	n := big.NewInt(2)
	for _, e := range []int{i, j, k} {
		n.Mul(n, new(big.Int).MulRange(1, int64(e)))
	}
	return new(big.Rat).SetFrac(n, new(big.Int).MulRange(1, int64(i+j+k+2)))
}

// P9.1: moments of low exponents, and of those at the end.
func TestMoment(t *testing.T) {
	exponents := []int{0, 1, 2, 3, 4, 5, 6, 11, 12, 13, 20, 21, 24, 47, 48}
	for _, i := range exponents {
		for _, j := range exponents {
			for _, k := range exponents {
				want(t, fmt.Sprintf("Moment(%d, %d, %d)", i, j, k), integrals.Moment(i, j, k), moment(i, j, k))
			}
		}
	}
}

// P9.1: there is no moment where one exponent is negative or too great, in any place.
func TestNoMoment(t *testing.T) {
	if 4*api.MaxDegree != 48 {
		t.Fatal("the limit is not 48")
	}
	for _, bad := range []int{-1, -2, -48, 49, 50, 1 << 31, 1 << 32, 1 << 62, math.MaxInt, math.MaxInt - 1, math.MinInt, math.MinInt + 1} {
		for _, good := range []int{0, 1, 48} {
			for _, x := range [][3]int{{bad, good, good}, {good, bad, good}, {good, good, bad}, {bad, bad, good}, {good, bad, bad}, {bad, good, bad}, {bad, bad, bad}, {bad, -bad, good}, {bad, 2 - bad, good}} {
				if m := integrals.Moment(x[0], x[1], x[2]); m != (fracs.Frac{}) {
					t.Fatalf("Moment(%d, %d, %d): %s", x[0], x[1], x[2], fracs.Text(m))
				}
			}
		}
	}
}

// P9.4: the moments of one exponent more add up to the moment.
func TestMomentsAddUp(t *testing.T) {
	for i := range 12 {
		for j := range 12 {
			for k := range 12 {
				sum := fracs.Sum(integrals.Moment(i+1, j, k), integrals.Moment(i, j+1, k), integrals.Moment(i, j, k+1))
				equal(t, fmt.Sprintf("Moment(%d, %d, %d)", i, j, k), sum, integrals.Moment(i, j, k))
			}
		}
	}
	equal(t, "Moment(47, 47, 47)", fracs.Mul(fracs.Int(3), integrals.Moment(48, 47, 47)), integrals.Moment(47, 47, 47))
}

// barycentric returns the product of the powers i, j and k of the coordinates 1 - x - y, x and y.
func barycentric(t *testing.T, i, j, k int) polys.Poly {
	t.Helper()
	p, e := polys.Pow(polys.Poly{term("1", 0, 0), term("-1", 1, 0), term("-1", 0, 1)}, i)
	if e != api.OK {
		t.Fatalf("error %d", e)
	}
	p, e = polys.Mul(p, power(j, k))
	if e != api.OK {
		t.Fatalf("error %d", e)
	}
	return p
}

// P9.1: a moment is the integral over a triangle of area 1, so twice that over the triangle of area 1/2.
func TestMomentIsIntegral(t *testing.T) {
	for i := range 7 {
		for j := range 7 {
			for k := range 13 - i - j {
				half := integrals.Tri(barycentric(t, i, j, k), at("0", "0"), at("1", "0"), at("0", "1"))
				equal(t, fmt.Sprintf("Moment(%d, %d, %d)", i, j, k), integrals.Moment(i, j, k), fracs.Mul(fracs.Int(2), half))
			}
		}
	}
}
