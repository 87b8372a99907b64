package decimals_test

import (
	"strings"
	"testing"

	"gusset/api"
	"gusset/decimals"
	"gusset/fracs"
)

// P4.1: the notation has a digit before the point, as many behind it as there are places, no point without
// places, and no sign before 0.
func TestNotation(t *testing.T) {
	hundred := api.MaxPlaces
	for _, x := range []struct {
		s           string
		places, way int
		want        string
	}{
		{"0", 0, decimals.Up, "0"}, {"0", 1, decimals.Up, "0.0"}, {"0", hundred, decimals.Down, "0." + strings.Repeat("0", hundred)},
		{"-1/3", 0, decimals.Up, "0"}, {"-1/3", 0, decimals.Nearest, "0"}, {"-1/3", 0, decimals.Down, "-1"}, {"-1/300", 1, decimals.Nearest, "0.0"},
		{"1/20", 2, decimals.Down, "0.05"}, {"-1/20", 2, decimals.Down, "-0.05"}, {"-1/20", 4, decimals.Up, "-0.0500"},
		{"7", 0, decimals.Down, "7"}, {"-7", 0, decimals.Up, "-7"}, {"-7", 3, decimals.Nearest, "-7.000"}, {"10", 1, decimals.Down, "10.0"},
		{"1999/1000", 2, decimals.Up, "2.00"}, {"-1999/1000", 2, decimals.Down, "-2.00"}, {"-1001/1000", 3, decimals.Down, "-1.001"},
		{"999/1000", 2, decimals.Nearest, "1.00"}, {"9999", 2, decimals.Down, "9999.00"}, {"1/3", hundred, decimals.Up, "0." + strings.Repeat("3", hundred-1) + "4"},
		{"-2/3", hundred, decimals.Down, "-0." + strings.Repeat("6", hundred-1) + "7"}, {"18446744073709551616000000000000000000005/1000", 3, decimals.Down, "18446744073709551616000000000000000000.005"},
	} {
		if s, e := decimals.Text(read(x.s), x.places, x.way); s != x.want || e != api.OK {
			t.Errorf("Text(%s, %d, %d): %s, error %d; want %s", x.s, x.places, x.way, s, e, x.want)
		}
	}
}

// P4.1: numbers have no limit, and neither has their notation.
func TestLongNotation(t *testing.T) {
	nines := strings.Repeat("9", api.MaxDigits)
	a := fracs.Add(read(nines), read("2/3"))
	for _, x := range []struct {
		places, way int
		want        string
	}{
		{0, decimals.Down, nines}, {0, decimals.Nearest, "1" + strings.Repeat("0", api.MaxDigits)},
		{3, decimals.Down, nines + ".666"}, {3, decimals.Up, nines + ".667"}, {3, decimals.Nearest, nines + ".667"},
	} {
		if s, e := decimals.Text(a, x.places, x.way); s != x.want || e != api.OK {
			t.Errorf("Text with %d places in the mode %d: %d bytes, error %d", x.places, x.way, len(s), e)
		}
	}
	small := fracs.Mul(tens(-api.MaxDigits), tens(-api.MaxDigits))
	if s, e := decimals.Text(small, 2, decimals.Up); s != "0.01" || e != api.OK {
		t.Errorf("a small number rounded up: %s, error %d", s, e)
	}
	if s, e := decimals.Text(fracs.Neg(small), 0, decimals.Nearest); s != "0" || e != api.OK {
		t.Errorf("a small number rounded to nearest: %s, error %d", s, e)
	}
}

// P4.2: Parse of decimal numbers.
func TestParse(t *testing.T) {
	for _, x := range []struct{ s, want string }{
		{"0", "0"}, {"0.0", "0"}, {"0.000", "0"}, {"7", "7"}, {"-7", "-7"}, {"10", "10"}, {"1.0", "1"}, {"-1.0", "-1"}, {"1.5", "3/2"},
		{"-1.25", "-5/4"}, {"3.10", "31/10"}, {"0.05", "1/20"}, {"-0.05", "-1/20"}, {"0.0010", "1/1000"}, {"-0.001", "-1/1000"}, {"-10.010", "-1001/100"},
		{"20.02", "1001/50"}, {"100.001", "100001/1000"}, {"0.1234567890", "123456789/1000000000"}, {"9.999999999999999999999", "9999999999999999999999/1000000000000000000000"},
		{"18446744073709551616.5", "36893488147419103233/2"}, {"-123456789012345678901234567890.75", "-493827156049382715604938271563/4"},
	} {
		if a, e := decimals.Parse(x.s); fracs.Text(a) != x.want || e != api.OK {
			t.Errorf("Parse(%q): %s, error %d; want %s", x.s, fracs.Text(a), e, x.want)
		}
	}
	for _, r := range samples() {
		for _, s := range []string{r.FloatString(0), r.FloatString(1), r.FloatString(25), r.FloatString(150)} {
			if r.Sign() < 0 && rat(s).Sign() == 0 {
				s = s[1:] // without the "-" that FloatString leaves before a 0
			}
			if a, e := decimals.Parse(s); a != read(s) || e != api.OK {
				t.Errorf("Parse(%q): %s, error %d", s, fracs.Text(a), e)
			}
		}
	}
}

// P4.2: strings that are not decimal numbers.
func TestParseForm(t *testing.T) {
	for _, s := range []string{
		"", "-", ".", "-.", "--1", "-+1", "+1", "+0", "- 1", "1-", "00", "-00", "000", "007", "-01", "01.5", "00.5", "-00.5",
		"1.", "-1.", "0.", "-0.", ".5", "-.5", "..", "1..", "1..2", ".1.", "1.2.3", "1.2.", "1.-2", "1.+2", "-1.-2",
		"-0", "-0.0", "-0.000", "-" + "0." + strings.Repeat("0", 200), "1e5", "1E5", "1.5e1", "0x1", "0x1.8", "1_0", "1.0_0", "1,5", "1/2", "0.5/1",
		" 1", "1 ", "1. 5", "1 .5", "1.5 ", "\t1", "1\n", "1.5\n", "1\x00", "\x00", "1.\x005", "x", "1x", "1.x", "1.5x", "NaN", "Inf", "-Inf",
		"\u0661", "1.\u0665", "\uff11", "1\u066b5", "\xff", "1.\xff", "\u22121", "1:5", "1.:", "1./", "/.1", ":.1",
		strings.Repeat("x", api.MaxDigits), strings.Repeat("0", api.MaxDigits), strings.Repeat(".", api.MaxDigits), strings.Repeat("-", api.MaxDigits),
		strings.Repeat("9", api.MaxDigits-1) + ".", "0." + strings.Repeat("0", api.MaxDigits-3) + "x", "-0." + strings.Repeat("0", api.MaxDigits-3),
	} {
		if a, e := decimals.Parse(s); a != (fracs.Frac{}) || e != api.ErrForm {
			t.Errorf("Parse(%.60q): %.60s, error %d; want error %d", s, fracs.Text(a), e, api.ErrForm)
		}
	}
}

// P4.2: every byte counts towards the limit, the sign and the point, too, and the limit counts before the form.
func TestParseLimit(t *testing.T) {
	nines := strings.Repeat("9", api.MaxDigits)
	for _, s := range []string{nines, "-" + nines[1:], "9." + nines[2:], "-9." + nines[3:], "0." + nines[2:], "-0." + nines[3:], nines[2:] + ".9", "-" + nines[3:] + ".9"} {
		if a, e := decimals.Parse(s); a != valueOf(s) || e != api.OK {
			t.Errorf("Parse(%.20s..), %d bytes: error %d", s, len(s), e)
		}
	}
	for _, s := range []string{
		nines + "9", "-" + nines, "9." + nines[1:], "-9." + nines[2:], nines[1:] + ".9", "0" + nines, nines + ".", "." + nines, "+" + nines, nines + "x",
		strings.Repeat("0", api.MaxDigits+1), strings.Repeat("x", api.MaxDigits+1), strings.Repeat(".", api.MaxDigits+1), strings.Repeat("-", 2*api.MaxDigits),
		"-0." + strings.Repeat("0", api.MaxDigits-2), "0." + strings.Repeat("0", api.MaxDigits-1), strings.Repeat("9", 1<<20), strings.Repeat("\u0661", api.MaxDigits),
	} {
		if a, e := decimals.Parse(s); a != (fracs.Frac{}) || e != api.ErrLimit {
			t.Errorf("Parse(%.20q..), %d bytes: error %d; want error %d", s, len(s), e, api.ErrLimit)
		}
	}
}

// valueOf returns the value of the decimal number s, of any length.
func valueOf(s string) fracs.Frac {
	digits, negative := strings.CutPrefix(s, "-")
	before, after, _ := strings.Cut(digits, ".")
	a := read(before)
	if after != "" {
		a = fracs.Add(a, fracs.Mul(read(strings.TrimLeft(after, "0")), tens(-len(after))))
	}
	if negative {
		return fracs.Neg(a)
	}
	return a
}
