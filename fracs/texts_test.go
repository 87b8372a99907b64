package fracs_test

import (
	"strings"
	"testing"

	"gusset/api"
	"gusset/fracs"
)

// P3.5: Text, and Parse of what need not be in lowest terms.
func TestTextAndParse(t *testing.T) {
	for _, r := range edges() {
		if got := fracs.Text(frac(r)); got != r.RatString() {
			t.Errorf("Text of %s: %s", r, got)
		}
		for _, s := range []string{r.RatString(), r.String(), product(r.Num(), power(70, 0)).String() + "/" + product(r.Denom(), power(70, 0)).String()} {
			a, e := fracs.Parse(s)
			wantCode(t, s, a, e, api.OK)
			want(t, "Parse", a, r)
		}
	}
	for _, x := range []struct{ s, want string }{
		{"0", "0"}, {"0/1", "0"}, {"0/7", "0"}, {"1/1", "1"}, {"-1/1", "-1"}, {"7", "7"}, {"-12", "-12"}, {"8/4", "2"}, {"-8/4", "-2"},
		{"-6/4", "-3/2"}, {"10/12", "5/6"}, {"3/9", "1/3"}, {"1/18446744073709551616", "1/18446744073709551616"},
	} {
		a, e := fracs.Parse(x.s)
		if got := fracs.Text(a); got != x.want || e != api.OK {
			t.Errorf("Parse(%q): %s, error %d", x.s, got, e)
		}
	}
}

// P3.5: what comes before the first "/" must be an integer's form, and what comes after it a nonnegative one's.
func TestParseForm(t *testing.T) {
	for _, s := range []string{
		"", "/", "//", "1/", "/1", "-/1", "-", "--1", "-0", "-0/1", "-0/0", "00", "00/1", "01/2", "-01/2", "+1", "+1/2",
		"1/-2", "-1/-2", "1/+2", "1/-0", "1/00", "1/02", "1/-", "1/2/3", "1//2", "1/2/", "/1/2", "1/0/1", "/0",
		" 1/2", "1 /2", "1/ 2", "1/2 ", "1/2\n", "\t1", "1,2", "1.5", "1/2.0", "1e3", "1/2e3", "0x1/2", "1/0x2", "1_0/3", "1/1_0",
		"x", "x/0", "x/1", "1/x", "½", "1\u20442", "1\u22152", "1/\u0662", "1/\xff", "\xff/1", "1\x00/2", "1\\2", "1:2",
		strings.Repeat("0", api.MaxDigits), "1/" + strings.Repeat("0", api.MaxDigits),
	} {
		a, e := fracs.Parse(s)
		wantCode(t, s, a, e, api.ErrForm)
	}
}

// P3.5: the denominator 0, which counts last.
func TestParseZero(t *testing.T) {
	nines := strings.Repeat("9", api.MaxDigits)
	for _, s := range []string{"1/0", "0/0", "-1/0", "12345678901234567890123/0", nines + "/0", "-" + nines + "/0"} {
		a, e := fracs.Parse(s)
		wantCode(t, s, a, e, api.ErrZero)
	}
	for _, s := range []string{"x/0", "/0", "-0/0", "1/0x", "1/00", "1/-0", "1/0/"} {
		a, e := fracs.Parse(s)
		wantCode(t, s, a, e, api.ErrForm)
	}
	for _, s := range []string{nines + "9/0", "-" + nines + "9/0", "1/0" + nines} {
		a, e := fracs.Parse(s)
		wantCode(t, s, a, e, api.ErrLimit)
	}
}

// P3.5: each part has at most MaxDigits bytes, where a leading "-" of the first does not count.
func TestParseLimit(t *testing.T) {
	nines := strings.Repeat("9", api.MaxDigits)
	ten := "1" + strings.Repeat("0", api.MaxDigits-1)
	for _, s := range []string{
		nines, "-" + nines, nines + "/1", "1/" + nines, "-1/" + nines, nines + "/" + ten, "-" + nines + "/" + ten, "-" + ten + "/" + nines,
		nines + "/" + nines, "-" + nines + "/" + nines, "0/" + nines,
	} {
		a, e := fracs.Parse(s)
		wantCode(t, s, a, e, api.OK)
		want(t, "Parse", a, rat(s))
	}
	for _, s := range []string{
		nines + "9", "-" + nines + "9", nines + "9/1", "-" + nines + "9/1", "1/" + nines + "9", "-1/" + ten + "0", "0/0" + nines, "1/-" + nines,
		"--" + nines, "+" + nines, "0" + nines + "/1", "1/+" + nines, "1/" + nines + "/", "1/2/" + nines, "1//" + nines,
		nines + "x/2", nines + "9/" + nines + "9",
	} {
		a, e := fracs.Parse(s)
		wantCode(t, s, a, e, api.ErrLimit)
	}
}

// P3.5: the first part's error counts before the second part's.
func TestParseOrder(t *testing.T) {
	nines := strings.Repeat("9", api.MaxDigits)
	for _, x := range []struct {
		s string
		e api.Errno
	}{
		{"/" + nines + "9", api.ErrForm}, {strings.Repeat("/", api.MaxDigits+2) + "1", api.ErrForm}, {"x/" + nines + "9", api.ErrForm}, {"-0/" + nines + "9", api.ErrForm}, {"-/" + nines + "9", api.ErrForm},
		{nines + "9/x", api.ErrLimit}, {nines + "9/", api.ErrLimit}, {nines + "9/0", api.ErrLimit}, {nines + "9/-1", api.ErrLimit},
		{"1/x" + nines, api.ErrLimit}, {"1/x" + nines[1:], api.ErrForm}, {"1/" + nines[1:] + "/", api.ErrForm}, {nines + "/x", api.ErrForm},
		{"-" + nines[1:] + "x/0", api.ErrForm},
	} {
		a, e := fracs.Parse(x.s)
		wantCode(t, x.s, a, e, x.e)
	}
}

// P3.5: only strings are limited: a number may have more digits, and has a text then, too.
func TestLongText(t *testing.T) {
	nines := strings.Repeat("9", api.MaxDigits)
	tenth, _ := fracs.Of(1, 10)
	a := fracs.Mul(read(t, "-1/"+nines), tenth)
	if got := fracs.Text(a); got != "-1/"+nines+"0" {
		t.Errorf("a text of %d bytes is wrong", len(got))
	}
	if got := fracs.Text(fracs.Add(read(t, nines), fracs.Int(1))); got != "1"+strings.Repeat("0", api.MaxDigits) {
		t.Errorf("a text of %d bytes is wrong", len(got))
	}
	if _, e := fracs.Parse(fracs.Text(a)); e != api.ErrLimit {
		t.Errorf("Parse of a longer text: error %d", e)
	}
}
