package roots_test

import (
	"math/big"
	"slices"
	"testing"

	"gusset/api"
	"gusset/fracs"
	"gusset/roots"
)

// wantOrder fails unless Order returns want, with a and b either way round, and with sum whole or in parts.
func wantOrder(t *testing.T, a, b, sum *big.Rat, want int) {
	t.Helper()
	for _, l := range [][]fracs.Frac{{frac(sum)}, parts(sum)} {
		if c, e := roots.Order(frac(a), frac(b), l...); c != want || e != api.OK {
			t.Fatalf("Order(%.60s, %.60s, %.60s), in %d parts: %d, error %d; want %d", a, b, sum, len(l), c, e, want)
		}
		if c, e := roots.Order(frac(b), frac(a), l...); c != want || e != api.OK {
			t.Fatalf("Order(%.60s, %.60s, %.60s), in %d parts: %d, error %d; want %d", b, a, sum, len(l), c, e, want)
		}
	}
}

// parts returns fractions whose sum is r. One of them is negative.
func parts(r *big.Rat) []fracs.Frac {
	more := plus(r, rat("7/3"))
	return []fracs.Frac{frac(product(more, rat("1/2"))), read("-7/3"), frac(product(more, rat("1/2")))}
}

// P5.3: the roots are fractions, or multiples of one that is not, so that their order is that of the fractions,
// and so is what becomes of it when the root of the sum is a little greater or less.
func TestOrder(t *testing.T) {
	tiny := power(2, -700)
	sizes := []*big.Rat{whole(0), whole(1), whole(2), rat("1/3"), rat("5/2"), power(2, -80), power(10, 30), rat("18446744073709551617/3")}
	for _, factor := range []*big.Rat{whole(1), whole(2), rat("3/5"), power(7, 31)} {
		of := func(root *big.Rat) *big.Rat { return product(square(root), factor) }
		for _, p := range sizes {
			for _, q := range sizes {
				for _, r := range sizes {
					wantOrder(t, of(p), of(q), of(r), plus(p, q).Cmp(r))
				}
				both := of(plus(p, q))
				wantOrder(t, of(p), of(q), both, 0)
				wantOrder(t, of(p), of(q), plus(both, tiny), -1)
				if both.Sign() > 0 {
					wantOrder(t, of(p), of(q), minus(both, tiny), 1)
				}
			}
		}
	}
}

// P5.3: the order of all small integers and of their sixths, by their roots to many digits. Roots of such numbers
// that differ do so within the first of those.
func TestOrderOfAll(t *testing.T) {
	const precision, doubt = 1000, -500
	root := func(n int64) *big.Float { return new(big.Float).Sqrt(new(big.Float).SetPrec(precision).SetInt64(n)) }
	for a := int64(0); a <= 16; a++ {
		for b := int64(0); b <= 16; b++ {
			for sum := int64(0); sum <= 72; sum++ {
				gap := new(big.Float).Add(root(a), root(b))
				gap.Sub(gap, root(sum))
				want := gap.Sign()
				if gap.MantExp(nil) < doubt {
					want = 0
				}
				wantOrder(t, whole(a), whole(b), whole(sum), want)
				wantOrder(t, big.NewRat(a, 6), big.NewRat(b, 6), big.NewRat(sum, 6), want)
			}
		}
	}
}

// P5.3: where the bounds of the roots tell the order, it is this one.
func TestOrderByBounds(t *testing.T) {
	const places = 90
	list := samples()
	for i, a := range list {
		b, sum := list[i*7%len(list)], list[i*31%len(list)]
		bound := func(of func(fracs.Frac, int) (fracs.Frac, api.Errno), r *big.Rat) fracs.Frac {
			c, _ := of(frac(r), places)
			return c
		}
		c, e := roots.Order(frac(a), frac(b), frac(sum))
		if e != api.OK {
			t.Fatalf("Order(%s, %s, %s): error %d", a, b, sum, e)
		}
		if fracs.Cmp(fracs.Add(bound(roots.Below, a), bound(roots.Below, b)), bound(roots.Above, sum)) > 0 && c != 1 {
			t.Fatalf("Order(%s, %s, %s): %d; want 1", a, b, sum, c)
		}
		if fracs.Cmp(fracs.Add(bound(roots.Above, a), bound(roots.Above, b)), bound(roots.Below, sum)) < 0 && c != -1 {
			t.Fatalf("Order(%s, %s, %s): %d; want -1", a, b, sum, c)
		}
	}
}

// P5.3: the chapter's examples, no summand, summands that are negative, and the errors.
func TestOrderExamples(t *testing.T) {
	for _, x := range []struct {
		a, b string
		l    []string
		want int
		e    api.Errno
	}{
		{"1", "1", []string{"4"}, 0, api.OK}, {"2", "3", []string{"5"}, 1, api.OK}, {"2", "3", []string{"10"}, -1, api.OK}, {"1", "0", nil, 1, api.OK}, {"2", "2", []string{"8"}, 0, api.OK},
		{"0", "0", nil, 0, api.OK}, {"0", "1", nil, 1, api.OK}, {"0", "0", []string{"1"}, -1, api.OK}, {"0", "0", []string{"0"}, 0, api.OK}, {"0", "0", []string{"1", "-1"}, 0, api.OK},
		{"3", "0", []string{"3"}, 0, api.OK}, {"0", "3", []string{"1", "1", "1"}, 0, api.OK}, {"3", "0", []string{"2"}, 1, api.OK}, {"0", "3", []string{"4"}, -1, api.OK},
		{"1", "4", []string{"10", "-1"}, 0, api.OK}, {"1", "4", []string{"-5", "14"}, 0, api.OK}, {"1", "4", []string{"1", "2", "3", "3"}, 0, api.OK}, {"1", "4", []string{"1", "2", "3", "4"}, -1, api.OK},
		{"1", "4", []string{"5"}, 1, api.OK}, {"1", "4", []string{"4"}, 1, api.OK}, {"100", "1", []string{"1/2"}, 1, api.OK},
		{"-1", "2", []string{"8"}, 0, api.ErrArg}, {"1", "-2", []string{"8"}, 0, api.ErrArg}, {"1", "2", []string{"-8"}, 0, api.ErrArg}, {"1", "2", []string{"8", "-9"}, 0, api.ErrArg},
		{"-1", "-1", []string{"-1"}, 0, api.ErrArg}, {"-1", "-1", nil, 0, api.ErrArg}, {"-1/1000", "0", nil, 0, api.ErrArg}, {"0", "-1/1000", nil, 0, api.ErrArg}, {"0", "0", []string{"-1/1000"}, 0, api.ErrArg},
		{"0", "0", []string{"1/2", "-1/3", "-1/5"}, 0, api.ErrArg}, {"-4", "9", []string{"100"}, 0, api.ErrArg}, {"-4", "-9", []string{"36"}, 0, api.ErrArg},
	} {
		var l []fracs.Frac
		for _, s := range x.l {
			l = append(l, read(s))
		}
		kept := slices.Clone(l)
		if c, e := roots.Order(read(x.a), read(x.b), l...); c != x.want || e != x.e {
			t.Errorf("Order(%s, %s, %v): %d, error %d; want %d, error %d", x.a, x.b, x.l, c, e, x.want, x.e)
		}
		if !slices.Equal(l, kept) {
			t.Errorf("Order(%s, %s, %v) has changed its arguments", x.a, x.b, x.l)
		}
	}
}

// P5.3: numbers that no text can hold have an order, too.
func TestOrderOfGreatNumbers(t *testing.T) {
	great, _ := fracs.Pow(fracs.Int(10), api.MaxDigits)
	great = fracs.Square(great)
	four := fracs.Mul(fracs.Int(4), great)
	small, _ := fracs.Div(fracs.Int(1), great)
	for _, x := range []struct {
		l    []fracs.Frac
		want int
	}{{[]fracs.Frac{four}, 0}, {[]fracs.Frac{four, small}, -1}, {[]fracs.Frac{small, four, small}, -1}, {[]fracs.Frac{four, fracs.Neg(small)}, 1}, {[]fracs.Frac{small}, 1}} {
		if c, e := roots.Order(great, great, x.l...); c != x.want || e != api.OK {
			t.Errorf("the order of great numbers: %d, error %d; want %d", c, e, x.want)
		}
	}
}
