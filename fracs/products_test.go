package fracs_test

import (
	"math"
	"math/big"
	"testing"

	"gusset/api"
	"gusset/fracs"
)

// P3.3: Mul and Div, and the refusal of 0.
func TestMulAndDiv(t *testing.T) {
	for _, p := range pairs() {
		a, b := frac(p[0]), frac(p[1])
		want(t, "Mul", fracs.Mul(a, b), new(big.Rat).Mul(p[0], p[1]))
		q, e := fracs.Div(a, b)
		if p[1].Sign() == 0 {
			wantCode(t, "Div(a, 0)", q, e, api.ErrZero)
			continue
		}
		wantCode(t, "Div", q, e, api.OK)
		want(t, "Div", q, new(big.Rat).Quo(p[0], p[1]))
	}
}

// P3.3: all products and quotients of small fractions, in which every common divisor occurs.
func TestSmallProducts(t *testing.T) {
	for n := int64(-7); n <= 7; n++ {
		for d := int64(1); d <= 12; d++ {
			for m := int64(-7); m <= 7; m++ {
				for c := int64(1); c <= 12; c++ {
					a, _ := fracs.Of(n, d)
					b, _ := fracs.Of(m, c)
					product, _ := fracs.Of(n*m, d*c)
					quotient, wanted := fracs.Of(n*c, d*m)
					if got := fracs.Mul(a, b); got != product {
						t.Fatalf("%d/%d times %d/%d: %s", n, d, m, c, fracs.Text(got))
					}
					if got, e := fracs.Div(a, b); got != quotient || e != wanted {
						t.Fatalf("%d/%d by %d/%d: %s, error %d", n, d, m, c, fracs.Text(got), e)
					}
				}
			}
		}
	}
}

// P3.3: division by 0 and by the zero value.
func TestDivByZero(t *testing.T) {
	for _, r := range edges() {
		q, e := fracs.Div(frac(r), fracs.Frac{})
		wantCode(t, "Div(a, the zero value)", q, e, api.ErrZero)
		q, e = fracs.Div(frac(r), fracs.Sub(frac(r), frac(r)))
		wantCode(t, "Div(a, a - a)", q, e, api.ErrZero)
	}
}

// P3.3: Square.
func TestSquare(t *testing.T) {
	for _, r := range edges() {
		want(t, "Square", fracs.Square(frac(r)), new(big.Rat).Mul(r, r))
	}
}

// powerOf returns r to the power n, which is negative only if r is not 0.
func powerOf(r *big.Rat, n int) *big.Rat {
	if n < 0 {
		return powerOf(new(big.Rat).Inv(r), -n)
	}
	exponent := big.NewInt(int64(n))
	return over(new(big.Int).Exp(r.Num(), exponent, nil), new(big.Int).Exp(r.Denom(), exponent, nil))
}

// P3.3: Pow with small exponents of either sign, and 0 to a negative power.
func TestPow(t *testing.T) {
	for _, r := range edges() {
		for n := -9; n <= 9; n++ {
			p, e := fracs.Pow(frac(r), n)
			if r.Sign() == 0 && n < 0 {
				wantCode(t, "Pow(0, n)", p, e, api.ErrZero)
				continue
			}
			wantCode(t, "Pow", p, e, api.OK)
			want(t, "Pow", p, powerOf(r, n))
		}
	}
}

// P3.3: Pow at the ends of the exponents. What is wrong with the exponent counts before what is wrong with 0
// or with a great number.
func TestPowOfExponents(t *testing.T) {
	great := frac(over(power(100000, 1), power(100000, -1)))
	for _, n := range []int{api.MaxDigits + 1, -api.MaxDigits - 1, 1 << 32, -1 << 32, math.MaxInt, math.MinInt, math.MinInt + 1} {
		for _, a := range []fracs.Frac{{}, fracs.Int(1), fracs.Int(-1), read(t, "-2/3"), great, fracs.Neg(great)} {
			p, e := fracs.Pow(a, n)
			wantCode(t, "Pow with a great exponent", p, e, api.ErrArg)
		}
	}
	for _, n := range []int{api.MaxDigits, api.MaxDigits - 1, -api.MaxDigits, 1 - api.MaxDigits, 1, -1, 0} {
		for _, s := range []string{"1", "-1", "2", "-2", "1/2", "-1/2", "2/3", "-3/2"} {
			p, e := fracs.Pow(read(t, s), n)
			wantCode(t, "Pow", p, e, api.OK)
			want(t, "Pow", p, powerOf(rat(s), n))
		}
	}
	for _, x := range []struct {
		n    int
		want int64
		e    api.Errno
	}{
		{0, 1, api.OK}, {1, 0, api.OK}, {2, 0, api.OK}, {api.MaxDigits, 0, api.OK}, {api.MaxDigits + 1, 0, api.ErrArg},
		{-1, 0, api.ErrZero}, {-2, 0, api.ErrZero}, {-api.MaxDigits, 0, api.ErrZero}, {-api.MaxDigits - 1, 0, api.ErrArg},
	} {
		if p, e := fracs.Pow(fracs.Int(0), x.n); p != fracs.Int(x.want) || e != x.e {
			t.Errorf("Pow(0, %d): %s, error %d", x.n, fracs.Text(p), e)
		}
	}
}

// P3.3: Pow on both sides of MaxPower, for each part of the fraction and each sign.
func TestPowOfGreatNumbers(t *testing.T) {
	for _, x := range []struct {
		n    int
		bits uint // the greatest number of binary digits of a part: n times one more is beyond MaxPower
	}{{1, 262144}, {2, 131072}, {3, 87381}, {64, 4096}, {127, 2064}, {4095, 64}, {4096, 64}} {
		for _, n := range []int{x.n, -x.n} {
			for _, r := range []*big.Rat{
				over(power(x.bits, -1), big.NewInt(1)), over(big.NewInt(1), power(x.bits, -1)),
				over(power(x.bits-1, 0), big.NewInt(3)), over(big.NewInt(-3), power(x.bits-1, 0)),
				over(power(x.bits, -2), power(x.bits, -1)),
			} {
				p, e := fracs.Pow(frac(r), n)
				wantCode(t, "Pow at the limit", p, e, api.OK)
				wantPower(t, p, powerOf(r, n))
			}
			for _, r := range []*big.Rat{
				over(power(x.bits, 0), big.NewInt(1)), over(big.NewInt(1), power(x.bits, 0)),
				over(power(x.bits, 1), big.NewInt(2)), over(big.NewInt(-2), power(x.bits, 1)),
				over(power(x.bits, 1), power(x.bits, -1)), over(power(x.bits, -1), power(x.bits, 1)),
			} {
				p, e := fracs.Pow(frac(r), n)
				wantCode(t, "Pow beyond the limit", p, e, api.ErrLimit)
			}
		}
	}
}

// wantPower fails unless the parts of got are those of r. (Texts and common divisors of such long numbers would
// take a while.)
func wantPower(t *testing.T, got fracs.Frac, r *big.Rat) {
	t.Helper()
	if fracs.Num(got) != integer(r.Num()) || fracs.Den(got) != nat(r.Denom()) || fracs.Whole(got) != r.IsInt() {
		t.Error("a power of a great number is wrong")
	}
}

// P3.3: the exponent 0 needs no digits, and numbers themselves have no limit.
func TestPowOfGreaterNumbers(t *testing.T) {
	for _, r := range []*big.Rat{over(power(300000, 1), power(300001, -1)), over(big.NewInt(-1), power(300000, 0))} {
		p, e := fracs.Pow(frac(r), 0)
		if p != fracs.Int(1) || e != api.OK {
			t.Errorf("a great number to the power 0: error %d", e)
		}
		for _, n := range []int{1, -1, api.MaxDigits, -api.MaxDigits} {
			p, e := fracs.Pow(frac(r), n)
			wantCode(t, "Pow of a great number", p, e, api.ErrLimit)
		}
		wantPower(t, fracs.Square(frac(r)), powerOf(r, 2))
	}
}
