package roots_test

import (
	"math"
	"math/big"
	"testing"

	"gusset/api"
	"gusset/fracs"
	"gusset/roots"
)

// integerOf returns a 2^places, and fails unless that is an integer and not negative.
func integerOf(t *testing.T, a fracs.Frac, places int) *big.Rat {
	t.Helper()
	n := product(rat(fracs.Text(a)), power(2, places))
	if !n.IsInt() || n.Sign() < 0 {
		t.Fatalf("%s is no multiple of 2^-%d, or negative", fracs.Text(a), places)
	}
	return n
}

// P5.1: the definitions, to no places, to as many as there may be, and to those in between.
func TestBelowAndAbove(t *testing.T) {
	for _, r := range samples() {
		for _, places := range []int{0, 1, 2, 3, 8, 31, 32, 33, 64, 99, api.MaxPlaces} {
			scaled := product(r, power(4, places))
			low, e := roots.Below(frac(r), places)
			n := integerOf(t, low, places)
			if e != api.OK || square(n).Cmp(scaled) > 0 || square(plus(n, whole(1))).Cmp(scaled) <= 0 {
				t.Fatalf("Below(%s, %d): %s, error %d", r, places, fracs.Text(low), e)
			}
			high, e := roots.Above(frac(r), places)
			n = integerOf(t, high, places)
			if e != api.OK || square(n).Cmp(scaled) < 0 || n.Sign() > 0 && square(minus(n, whole(1))).Cmp(scaled) >= 0 {
				t.Fatalf("Above(%s, %d): %s, error %d", r, places, fracs.Text(high), e)
			}
		}
	}
}

// P5.1: the chapter's examples, and roots that are a multiple, or just beside one.
func TestBoundsOfRoots(t *testing.T) {
	for _, x := range []struct {
		a         string
		places    int
		low, high string
	}{
		{"2", 0, "1", "2"}, {"2", 3, "11/8", "3/2"}, {"1/4", 1, "1/2", "1/2"}, {"1/4", 0, "0", "1"}, {"0", 5, "0", "0"}, {"0", 0, "0", "0"}, {"0", 100, "0", "0"},
		{"1", 0, "1", "1"}, {"1", 100, "1", "1"}, {"4", 0, "2", "2"}, {"3", 0, "1", "2"}, {"5", 0, "2", "3"}, {"9/4", 0, "1", "2"}, {"9/4", 1, "3/2", "3/2"}, {"9/4", 2, "3/2", "3/2"},
		{"1/9", 0, "0", "1"}, {"1/9", 1, "0", "1/2"}, {"1/9", 2, "1/4", "1/2"}, {"4/9", 0, "0", "1"}, {"4/9", 1, "1/2", "1"}, {"1/3", 4, "9/16", "5/8"}, {"25/16", 1, "1", "3/2"}, {"25/16", 2, "5/4", "5/4"},
		{"17/4", 1, "2", "5/2"}, {"15/4", 1, "3/2", "2"}, {"8/9", 0, "0", "1"}, {"10/9", 0, "1", "2"},
		{"340282366920938463463374607431768211456", 0, "18446744073709551616", "18446744073709551616"},
		{"340282366920938463463374607431768211455", 0, "18446744073709551615", "18446744073709551616"},
		{"340282366920938463463374607431768211457", 0, "18446744073709551616", "18446744073709551617"},
	} {
		low, e := roots.Below(read(x.a), x.places)
		wantPair(t, "Below of "+x.a, low, e, read(x.low), api.OK)
		high, e := roots.Above(read(x.a), x.places)
		wantPair(t, "Above of "+x.a, high, e, read(x.high), api.OK)
	}
}

// P5.1: the errors, in their order: negative places before too many, and both before a negative number.
func TestBoundsErrors(t *testing.T) {
	for _, x := range []struct {
		places         int
		good, negative api.Errno
	}{
		{-1, api.ErrArg, api.ErrArg}, {-100, api.ErrArg, api.ErrArg}, {-101, api.ErrArg, api.ErrArg}, {math.MinInt, api.ErrArg, api.ErrArg},
		{api.MaxPlaces + 1, api.ErrLimit, api.ErrLimit}, {1 << 40, api.ErrLimit, api.ErrLimit}, {math.MaxInt, api.ErrLimit, api.ErrLimit},
		{0, api.OK, api.ErrArg}, {1, api.OK, api.ErrArg}, {api.MaxPlaces, api.OK, api.ErrArg},
	} {
		for _, bound := range []func(fracs.Frac, int) (fracs.Frac, api.Errno){roots.Below, roots.Above} {
			for _, s := range []string{"0", "4", "9"} {
				a, e := bound(read(s), x.places)
				want, _ := roots.Exact(read(s))
				if x.good != api.OK {
					want = fracs.Frac{}
				}
				wantPair(t, "root of "+s, a, e, want, x.good)
			}
			for _, s := range []string{"-1", "-4", "-1/4", "-1/3", "-1/1000000000000000000000"} {
				a, e := bound(read(s), x.places)
				wantPair(t, "root of "+s, a, e, fracs.Frac{}, x.negative)
			}
		}
	}
}

// P5.2: the root of each square, and none of such a square times a number that is none.
func TestExact(t *testing.T) {
	for _, r := range samples() {
		if a, ok := roots.Exact(frac(square(r))); a != frac(r) || !ok {
			t.Fatalf("root of the square of %s: %s, %t", r, fracs.Text(a), ok)
		}
		if r.Sign() == 0 {
			continue
		}
		for _, factor := range []string{"2", "1/2", "3", "1/3", "2/3", "3/4", "4/3", "6/25", "-1", "-4", "-1/9", "1000000007/1000000009"} {
			if a, ok := roots.Exact(frac(product(square(r), rat(factor)))); a != (fracs.Frac{}) || ok {
				t.Fatalf("root of %s times the square of %s: %s, %t", factor, r, fracs.Text(a), ok)
			}
		}
	}
}

// P5.2: of the small fractions exactly the squares have a root, and of an integer's neighbours only it.
func TestExactOfAll(t *testing.T) {
	squares := map[fracs.Frac]fracs.Frac{}
	for n := int64(0); n <= 20; n++ {
		for d := int64(1); d <= 20; d++ {
			squares[frac(big.NewRat(n*n, d*d))] = frac(big.NewRat(n, d))
		}
	}
	for n := int64(-400); n <= 400; n++ {
		for d := int64(1); d <= 60; d++ {
			a := frac(big.NewRat(n, d))
			want, square := squares[a]
			if root, ok := roots.Exact(a); root != want || ok != square {
				t.Fatalf("Exact(%s): %s, %t", fracs.Text(a), fracs.Text(root), ok)
			}
		}
	}
	for _, n := range []int{1, 31, 32, 63, 64, 100, 200} {
		for plus := int64(-3); plus <= 3; plus++ {
			a := fracs.Add(frac(power(4, n)), fracs.Int(plus))
			root, ok := roots.Exact(a)
			square := plus == 0 || n == 1 && plus == -3 // 4 - 3 is a square, too
			if ok != square || ok && fracs.Square(root) != a || !ok && root != (fracs.Frac{}) {
				t.Errorf("Exact(4^%d + %d): %s, %t", n, plus, fracs.Text(root), ok)
			}
		}
	}
}

// P5.2: the chapter's examples, and the zero value.
func TestExactExamples(t *testing.T) {
	for _, x := range []struct {
		a, want string
		ok      bool
	}{{"9/4", "3/2", true}, {"2", "0", false}, {"0", "0", true}, {"-4", "0", false}, {"1", "1", true}, {"-1", "0", false}, {"8/18", "2/3", true}, {"18/8", "3/2", true}} {
		if a, ok := roots.Exact(read(x.a)); a != read(x.want) || ok != x.ok {
			t.Errorf("Exact(%s): %s, %t", x.a, fracs.Text(a), ok)
		}
	}
	if a, ok := roots.Exact(fracs.Frac{}); a != (fracs.Frac{}) || !ok {
		t.Errorf("Exact of the zero value: %s, %t", fracs.Text(a), ok)
	}
}

// P5.1, P5.2: numbers have no limit, so the roots of those that no text can hold are found, too.
func TestRootsOfGreatNumbers(t *testing.T) {
	for _, n := range []int{api.MaxDigits, -api.MaxDigits} {
		root, e := fracs.Pow(fracs.Int(10), n)
		if e != api.OK {
			t.Fatal("no power of ten")
		}
		for range 2 {
			root = fracs.Mul(fracs.Square(root), fracs.Int(3))
			a := fracs.Square(root)
			if b, ok := roots.Exact(a); b != root || !ok {
				t.Errorf("the root of the square of a number with 10^%d is not found", n)
			}
			if _, ok := roots.Exact(fracs.Mul(a, fracs.Int(3))); ok {
				t.Errorf("a root of a number with 10^%d that is no square", n)
			}
		}
	}
	great, _ := fracs.Pow(fracs.Int(10), api.MaxDigits)
	a := fracs.Square(fracs.Square(great))
	low, e := roots.Below(a, api.MaxPlaces)
	wantPair(t, "Below of 10^16384", low, e, fracs.Square(great), api.OK)
	high, e := roots.Above(a, api.MaxPlaces)
	wantPair(t, "Above of 10^16384", high, e, fracs.Square(great), api.OK)
	small, _ := fracs.Div(fracs.Int(1), a)
	low, e = roots.Below(small, api.MaxPlaces)
	wantPair(t, "Below of 10^-16384", low, e, fracs.Int(0), api.OK)
	high, e = roots.Above(small, api.MaxPlaces)
	wantPair(t, "Above of 10^-16384", high, e, frac(power(2, -api.MaxPlaces)), api.OK)
}
