package decimals_test

import (
	"math"
	"math/big"
	"testing"

	"gusset/api"
	"gusset/decimals"
	"gusset/fracs"
)

// The chapter gives the rounding modes their numbers.
func TestModes(t *testing.T) {
	if decimals.Down != 1 || decimals.Up != 2 || decimals.Nearest != 3 {
		t.Errorf("the modes are %d, %d and %d", decimals.Down, decimals.Up, decimals.Nearest)
	}
	var _ int = decimals.Nearest
}

// wantRounded fails unless Round and Text round r by the definitions.
func wantRounded(t *testing.T, r *big.Rat, places, way int) {
	t.Helper()
	value := over(multiple(r, places, way), power(10, places))
	a, e := decimals.Round(frac(r), places, way)
	if a != frac(value) || e != api.OK {
		t.Fatalf("Round(%s, %d, %d): %s, error %d; want %s", r, places, way, fracs.Text(a), e, value)
	}
	s, e := decimals.Text(frac(r), places, way)
	if s != value.FloatString(places) || e != api.OK { // the multiple has no more places, so that this is exact
		t.Fatalf("Text(%s, %d, %d): %s, error %d; want %s", r, places, way, s, e, value)
	}
}

// P4.1: Round and Text, in each mode, to no places, to as many as there may be, and to those in between.
func TestRoundAndText(t *testing.T) {
	for _, r := range samples() {
		for _, places := range []int{0, 1, 2, 3, 7, 19, 40, 99, api.MaxPlaces} {
			for _, way := range ways() {
				wantRounded(t, r, places, way)
			}
		}
	}
}

// P4.1: around each multiple, and around each number halfway between two, in each mode. The one nearer to a
// number is chosen however small the difference, and of two equally near ones that with the even integer.
func TestHalves(t *testing.T) {
	tiny := under(power(2, 300))
	for n := int64(-9); n <= 9; n++ {
		for _, places := range []int{0, 1, 2, 30, api.MaxPlaces} {
			half := over(big.NewInt(n), product(big.NewInt(2), power(10, places)))
			for _, way := range ways() {
				for _, shift := range []*big.Rat{new(big.Rat), tiny, negative(tiny)} {
					wantRounded(t, plus(half, shift), places, way)
				}
			}
		}
	}
	for _, x := range []struct {
		s, want string
	}{
		{"1/2", "0"}, {"3/2", "2"}, {"5/2", "2"}, {"7/2", "4"}, {"-1/2", "0"}, {"-3/2", "-2"}, {"-5/2", "-2"}, {"-7/2", "-4"},
		{"18446744073709551615/2", "9223372036854775808"}, {"36893488147419103233/2", "18446744073709551616"},
		{"36893488147419103235/2", "18446744073709551618"}, {"-36893488147419103233/2", "-18446744073709551616"},
		{"36893488147419103234/4", "9223372036854775808"}, {"499/1000", "0"}, {"501/1000", "1"}, {"-501/1000", "-1"},
	} {
		if s, e := decimals.Text(read(x.s), 0, decimals.Nearest); s != x.want || e != api.OK {
			t.Errorf("%s: %s, error %d; want %s", x.s, s, e, x.want)
		}
	}
}

// P4.1: Between returns what Round returns in the modes Down and Up.
func TestBetween(t *testing.T) {
	for _, r := range samples() {
		for _, places := range []int{0, 1, 2, 17, api.MaxPlaces} {
			low, high, e := decimals.Between(frac(r), places)
			wantLow := over(multiple(r, places, decimals.Down), power(10, places))
			wantHigh := over(multiple(r, places, decimals.Up), power(10, places))
			if low != frac(wantLow) || high != frac(wantHigh) || e != api.OK {
				t.Fatalf("Between(%s, %d): %s, %s, error %d", r, places, fracs.Text(low), fracs.Text(high), e)
			}
		}
	}
}

// P4.1: negative places count before a mode that is none, and too many places count before it, too.
func TestRoundErrors(t *testing.T) {
	for _, a := range []fracs.Frac{{}, fracs.Int(1), read("-1/3")} {
		for _, x := range []struct {
			places int
			e      api.Errno
		}{
			{-1, api.ErrArg}, {-100, api.ErrArg}, {-101, api.ErrArg}, {math.MinInt, api.ErrArg},
			{api.MaxPlaces + 1, api.ErrLimit}, {math.MaxInt, api.ErrLimit},
		} {
			for _, way := range []int{math.MinInt, -1, 0, 1, 2, 3, 4, math.MaxInt} {
				wantNothing(t, a, x.places, way, x.e)
			}
			low, high, e := decimals.Between(a, x.places)
			if low != (fracs.Frac{}) || high != (fracs.Frac{}) || e != x.e {
				t.Errorf("Between to %d places: %s, %s, error %d", x.places, fracs.Text(low), fracs.Text(high), e)
			}
		}
		for _, places := range []int{0, 1, api.MaxPlaces} {
			for _, way := range []int{math.MinInt, -3, -2, -1, 0, 4, 5, math.MaxInt} {
				wantNothing(t, a, places, way, api.ErrArg)
			}
		}
	}
}

// wantNothing fails unless Round and Text return the error code, and nothing else.
func wantNothing(t *testing.T, a fracs.Frac, places, way int, code api.Errno) {
	t.Helper()
	b, e := decimals.Round(a, places, way)
	if b != (fracs.Frac{}) || e != code {
		t.Errorf("Round to %d places in the mode %d: %s, error %d; want error %d", places, way, fracs.Text(b), e, code)
	}
	s, e := decimals.Text(a, places, way)
	if s != "" || e != code {
		t.Errorf("Text with %d places in the mode %d: %s, error %d; want error %d", places, way, s, e, code)
	}
}

// The chapter's examples of Round, Text and Between.
func TestExamples(t *testing.T) {
	for _, x := range []struct {
		s           string
		places, way int
		want        string
		e           api.Errno
	}{
		{"1/8", 2, decimals.Down, "0.12", api.OK}, {"1/8", 2, decimals.Up, "0.13", api.OK}, {"1/8", 2, decimals.Nearest, "0.12", api.OK},
		{"3/8", 2, decimals.Nearest, "0.38", api.OK}, {"-1/8", 2, decimals.Down, "-0.13", api.OK}, {"-1/8", 2, decimals.Up, "-0.12", api.OK},
		{"-1/1000", 2, decimals.Up, "0.00", api.OK}, {"5/2", 0, decimals.Nearest, "2", api.OK},
		{"1", 101, 1, "", api.ErrLimit}, {"1", 0, 4, "", api.ErrArg},
	} {
		if s, e := decimals.Text(read(x.s), x.places, x.way); s != x.want || e != x.e {
			t.Errorf("Text(%s, %d, %d): %s, error %d", x.s, x.places, x.way, s, e)
		}
	}
	if a, e := decimals.Round(read("2/3"), 1, decimals.Up); a != read("7/10") || e != api.OK {
		t.Errorf("Round(2/3, 1, Up): %s, error %d", fracs.Text(a), e)
	}
	if low, high, e := decimals.Between(read("-1/3"), 1); low != read("-2/5") || high != read("-3/10") || e != api.OK {
		t.Errorf("Between(-1/3, 1): %s, %s, error %d", fracs.Text(low), fracs.Text(high), e)
	}
}
