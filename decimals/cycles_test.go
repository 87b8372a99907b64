package decimals_test

import (
	"math/big"
	"testing"

	"gusset/api"
	"gusset/decimals"
	"gusset/fracs"
)

// expansion returns the numbers of leading and of repeated digits of r, by long division: the digits repeat
// when a remainder does.
func expansion(r *big.Rat) (ahead, round int) {
	at := map[string]int{}
	rest := new(big.Int).Mod(new(big.Int).Abs(r.Num()), r.Denom())
	for place := 0; ; place++ {
		if rest.Sign() == 0 {
			return place, 0
		}
		if first, seen := at[rest.String()]; seen {
			return first, place - first
		}
		at[rest.String()] = place
		rest.Mod(product(rest, big.NewInt(10)), r.Denom())
	}
}

// wantCycle fails unless Cycle returns the numbers of digits of r, or ErrLimit if they are too many.
func wantCycle(t *testing.T, r *big.Rat) {
	t.Helper()
	ahead, round := expansion(r)
	code := api.OK
	if ahead+round > api.MaxPlaces {
		ahead, round, code = 0, 0, api.ErrLimit
	}
	m, n, e := decimals.Cycle(frac(r))
	if m != ahead || n != round || e != code {
		t.Fatalf("Cycle(%s): %d, %d, error %d; want %d, %d, error %d", r, m, n, e, ahead, round, code)
	}
}

// P4.3: Cycle of all small fractions, which do not only have the expansions of 1/n.
func TestCycle(t *testing.T) {
	for d := int64(1); d <= 1500; d++ {
		wantCycle(t, big.NewRat(1, d))
		wantCycle(t, big.NewRat(-d-1, d))
	}
	for d := int64(1); d <= 60; d++ {
		for n := -2 * d; n <= 2*d; n++ {
			wantCycle(t, big.NewRat(n, d))
		}
	}
	for _, r := range samples() {
		if r.Denom().BitLen() < 16 {
			wantCycle(t, r)
		}
	}
}

// P4.3: the chapter's examples, integers, and 0.
func TestCycleExamples(t *testing.T) {
	for _, x := range []struct {
		s            string
		ahead, round int
	}{
		{"0", 0, 0}, {"1", 0, 0}, {"-1", 0, 0}, {"3", 0, 0}, {"-18446744073709551616", 0, 0}, {"1/6", 1, 1}, {"1/7", 0, 6}, {"-1/7", 0, 6}, {"-1/8", 3, 0},
		{"1/2", 1, 0}, {"1/5", 1, 0}, {"1/10", 1, 0}, {"1/20", 2, 0}, {"1/25", 2, 0}, {"1/3", 0, 1}, {"1/9", 0, 1}, {"1/11", 0, 2}, {"10/11", 0, 2}, {"1/12", 2, 1},
		{"1/14", 1, 6}, {"22/7", 0, 6}, {"1/97", 0, 96}, {"-100/97", 0, 96},
	} {
		if m, n, e := decimals.Cycle(read(x.s)); m != x.ahead || n != x.round || e != api.OK {
			t.Errorf("Cycle(%s): %d, %d, error %d; want %d, %d", x.s, m, n, e, x.ahead, x.round)
		}
	}
	if m, n, e := decimals.Cycle(fracs.Frac{}); m != 0 || n != 0 || e != api.OK {
		t.Errorf("Cycle of the zero value: %d, %d, error %d", m, n, e)
	}
	if m, n, e := decimals.Cycle(read("1/109")); m != 0 || n != 0 || e != api.ErrLimit {
		t.Errorf("Cycle(1/109): %d, %d, error %d", m, n, e)
	}
}

// repunit returns 10^n - 1: 1/repunit(n) has a period of n digits.
func repunit(n int) *big.Int { return new(big.Int).Sub(power(10, n), big.NewInt(1)) }

// P4.3: what is limited is the sum of the two numbers.
func TestCycleLimit(t *testing.T) {
	ninetySeven := big.NewInt(97) // its period has 96 digits
	for _, x := range []struct {
		d            *big.Int
		ahead, round int // both 0 if there are too many
	}{
		{power(2, 99), 99, 0}, {power(2, 100), 100, 0}, {power(2, 101), 0, 0}, {power(5, 100), 100, 0}, {power(5, 101), 0, 0},
		{power(10, 100), 100, 0}, {power(10, 101), 0, 0}, {product(power(2, 100), power(5, 3)), 100, 0}, {product(power(2, 3), power(5, 101)), 0, 0},
		{product(power(2, 99), big.NewInt(3)), 99, 1}, {product(power(2, 100), big.NewInt(3)), 0, 0}, {product(power(5, 98), big.NewInt(11)), 98, 2}, {product(power(5, 99), big.NewInt(11)), 0, 0},
		{product(ninetySeven, power(2, 4)), 4, 96}, {product(ninetySeven, power(2, 5)), 0, 0}, {product(ninetySeven, power(10, 4)), 4, 96}, {product(ninetySeven, power(5, 5)), 0, 0},
		{repunit(99), 0, 99}, {repunit(100), 0, 100}, {repunit(101), 0, 0}, {product(repunit(99), big.NewInt(10)), 1, 99}, {product(repunit(99), big.NewInt(50)), 0, 0}, {product(repunit(100), big.NewInt(2)), 0, 0},
		{product(power(2, 5000), power(5, 3000)), 0, 0}, {product(power(2, 4000), power(3, 4000)), 0, 0}, {power(3, 8000), 0, 0}, {power(7, 4000), 0, 0},
	} {
		code := api.OK
		if x.ahead+x.round == 0 {
			code = api.ErrLimit
		}
		for _, r := range []*big.Rat{under(x.d), negative(under(x.d)), plus(under(x.d), big.NewRat(3, 1))} {
			m, n, e := decimals.Cycle(frac(r))
			if m != x.ahead || n != x.round || e != code {
				t.Errorf("Cycle(%.60s): %d, %d, error %d; want %d, %d, error %d", r, m, n, e, x.ahead, x.round, code)
			}
		}
	}
}

// P4.3: the denominator may be greater than any that has a text.
func TestCycleOfGreatNumbers(t *testing.T) {
	third := read("1/3")
	for _, a := range []fracs.Frac{tens(-api.MaxDigits), fracs.Mul(tens(-api.MaxDigits), third), fracs.Square(fracs.Square(tens(-api.MaxDigits)))} {
		m, n, e := decimals.Cycle(a)
		if m != 0 || n != 0 {
			t.Errorf("%d and %d digits beside an error", m, n)
		}
		wantCode(t, "Cycle of a small number", e, api.ErrLimit)
	}
	m, n, e := decimals.Cycle(fracs.Add(fracs.Square(tens(api.MaxDigits)), third))
	if m != 0 || n != 1 {
		t.Errorf("Cycle of a great number: %d, %d", m, n)
	}
	wantCode(t, "Cycle of a great number", e, api.OK)
}
