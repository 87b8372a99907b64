package decimals_test

import (
	"math/big"
	"testing"

	"gusset/api"
	"gusset/decimals"
	"gusset/fracs"
)

// round returns a rounded.
func round(t *testing.T, a fracs.Frac, places, way int) fracs.Frac {
	t.Helper()
	b, e := decimals.Round(a, places, way)
	if e != api.OK {
		t.Fatalf("Round(%s, %d, %d): error %d", fracs.Text(a), places, way, e)
	}
	return b
}

// each passes each sample, with different numbers of places, to law.
func each(law func(a fracs.Frac, places int)) {
	for _, r := range samples() {
		for _, places := range []int{0, 1, 2, 5, 50, api.MaxPlaces} {
			law(frac(r), places)
		}
	}
}

// P4.4: a number lies between its value rounded down and its value rounded up, which differ by 10^-places,
// unless it is a multiple of that.
func TestBetweenLaw(t *testing.T) {
	each(func(a fracs.Frac, places int) {
		low, high, e := decimals.Between(a, places)
		if e != api.OK || fracs.Cmp(low, a) > 0 || fracs.Cmp(a, high) > 0 {
			t.Fatalf("%s, to %d places: from %s to %s, error %d", fracs.Text(a), places, fracs.Text(low), fracs.Text(high), e)
		}
		gap := tens(-places)
		if fracs.Whole(fracs.Mul(a, tens(places))) {
			gap = fracs.Int(0)
		}
		if fracs.Sub(high, low) != gap {
			t.Fatalf("%s, to %d places: from %s to %s", fracs.Text(a), places, fracs.Text(low), fracs.Text(high))
		}
		if low != round(t, a, places, decimals.Down) || high != round(t, a, places, decimals.Up) {
			t.Fatalf("%s, to %d places: Between is not Round", fracs.Text(a), places)
		}
	})
}

// P4.4: rounding to nearest returns one of the two, at most half of 10^-places away.
func TestNearestLaw(t *testing.T) {
	half := read("1/2")
	each(func(a fracs.Frac, places int) {
		low, high, _ := decimals.Between(a, places)
		near := round(t, a, places, decimals.Nearest)
		if near != low && near != high {
			t.Fatalf("%s, to %d places: %s", fracs.Text(a), places, fracs.Text(near))
		}
		if fracs.Cmp(fracs.Abs(fracs.Sub(a, near)), fracs.Mul(half, tens(-places))) > 0 {
			t.Fatalf("%s, to %d places: %s is too far", fracs.Text(a), places, fracs.Text(near))
		}
	})
}

// P4.4: rounding a rounded number changes nothing, and rounding -a down is the negative of rounding a up.
func TestRoundLaws(t *testing.T) {
	each(func(a fracs.Frac, places int) {
		for _, way := range ways() {
			b := round(t, a, places, way)
			if round(t, b, places, way) != b {
				t.Fatalf("%s, rounded twice to %d places in the mode %d", fracs.Text(a), places, way)
			}
		}
		if round(t, fracs.Neg(a), places, decimals.Down) != fracs.Neg(round(t, a, places, decimals.Up)) {
			t.Fatalf("%s and its negative, to %d places", fracs.Text(a), places)
		}
	})
}

// P4.4: Parse reads what Text writes.
func TestTextLaw(t *testing.T) {
	each(func(a fracs.Frac, places int) {
		for _, way := range ways() {
			s, e := decimals.Text(a, places, way)
			wantCode(t, "Text", e, api.OK)
			b, e := decimals.Parse(s)
			if b != round(t, a, places, way) || e != api.OK {
				t.Fatalf("%s, with %d places in the mode %d: %s, error %d", fracs.Text(a), places, way, s, e)
			}
		}
	})
}

// repeats reports whether a 10^ahead (10^round - 1) is an integer, or a 10^ahead if round is 0.
func repeats(a fracs.Frac, ahead, round int) bool {
	b := fracs.Mul(a, tens(ahead))
	if round > 0 {
		b = fracs.Mul(b, fracs.Sub(tens(round), fracs.Int(1)))
	}
	return fracs.Whole(b)
}

// P4.4: the results of Cycle are the least numbers for which a 10^ahead (10^round - 1), or a 10^ahead if the
// period is empty, is an integer.
func TestCycleLaw(t *testing.T) {
	for d := int64(1); d <= 400; d++ {
		a := frac(big.NewRat(d+1, d))
		ahead, round, e := decimals.Cycle(a)
		if e == api.ErrLimit {
			continue
		}
		if e != api.OK || !repeats(a, ahead, round) {
			t.Fatalf("Cycle(%s): %d, %d, error %d", fracs.Text(a), ahead, round, e)
		}
		if ahead > 0 && repeats(a, ahead-1, round) {
			t.Fatalf("Cycle(%s): fewer than %d digits lead", fracs.Text(a), ahead)
		}
		for n := 1; n < round; n++ {
			if repeats(a, ahead, n) {
				t.Fatalf("Cycle(%s): %d digits repeat", fracs.Text(a), n)
			}
		}
	}
}
