package ints_test

import (
	"math"
	"math/big"
	"reflect"
	"strings"
	"testing"

	"gusset/api"
	"gusset/ints"
	"gusset/nats"
)

// P2.1: Of, at and around the ends of int64 and at 0.
func TestOf(t *testing.T) {
	for _, n := range []int64{
		0, 1, -1, 9, -9, 1 << 32, -1 << 32, math.MaxInt32, math.MinInt32,
		math.MaxInt64, math.MaxInt64 - 1, math.MinInt64, math.MinInt64 + 1,
	} {
		want(t, "Of", ints.Of(n), big.NewInt(n))
	}
}

// P2.1: From with either sign; 0 has none.
func TestFrom(t *testing.T) {
	for _, n := range edges() {
		abs := new(big.Int).Abs(n)
		for _, x := range []struct {
			neg  bool
			want *big.Int
		}{{false, abs}, {true, neg(abs)}} {
			if s := ints.Text(ints.From(x.neg, nat(abs))); s != x.want.String() {
				t.Errorf("From(%t, %s): %s", x.neg, abs, s)
			}
		}
	}
	zero := ints.From(true, nats.Of(0))
	if zero != (ints.Int{}) || zero != ints.From(false, nats.Of(0)) || ints.Sign(zero) != 0 || ints.Text(zero) != "0" {
		t.Error("From(true, 0) is not 0")
	}
	if ints.From(true, nats.Nat{}) != ints.Of(0) {
		t.Error("From(true, the zero value) is not 0")
	}
}

// P2.1: I64 at and around -2^63, 2^63 - 1 and 2^64, and beyond.
func TestI64(t *testing.T) {
	list := edges()
	for _, n := range []uint{62, 63, 64, 65, 128} {
		for plus := int64(-3); plus <= 3; plus++ {
			list = append(list, power(n, plus), neg(power(n, plus)))
		}
	}
	for _, n := range list {
		got, ok := integer(n).I64()
		if n.IsInt64() && (got != n.Int64() || !ok) || !n.IsInt64() && (got != 0 || ok) {
			t.Errorf("I64 of %s: %d, %t", n, got, ok)
		}
	}
	for _, x := range []struct {
		n    string
		want int64
		ok   bool
	}{
		{"9223372036854775807", math.MaxInt64, true},
		{"9223372036854775808", 0, false},
		{"-9223372036854775808", math.MinInt64, true},
		{"-9223372036854775809", 0, false},
		{"18446744073709551615", 0, false},
		{"18446744073709551616", 0, false}, // its lowest digits to the base 2^64 are those of 0 and 1
		{"18446744073709551617", 0, false},
		{"-18446744073709551616", 0, false},
		{"-18446744073709551617", 0, false},
	} {
		if got, ok := integer(num(x.n)).I64(); got != x.want || ok != x.ok {
			t.Errorf("I64 of %s: %d, %t", x.n, got, ok)
		}
	}
}

// P2.1: Of and I64 are inverse.
func TestOfAndI64(t *testing.T) {
	s := &series{777}
	for range 1000 {
		n := int64(s.next())
		if got, ok := ints.Of(n).I64(); got != n || !ok {
			t.Fatalf("I64 of Of(%d): %d, %t", n, got, ok)
		}
	}
}

// P2.1: Abs, Sign and Neg.
func TestSigns(t *testing.T) {
	for _, n := range edges() {
		a := integer(n)
		if got := ints.Abs(a); got != nat(n) {
			t.Errorf("Abs(%s): %s", n, nats.Text(got))
		}
		if got := ints.Sign(a); got != n.Sign() {
			t.Errorf("Sign(%s): %d", n, got)
		}
		want(t, "Neg", ints.Neg(a), neg(n))
	}
	if ints.Neg(ints.Of(0)) != (ints.Int{}) {
		t.Error("Neg(0) is not 0")
	}
}

// P2.1: Cmp.
func TestCmp(t *testing.T) {
	for _, p := range pairs() {
		if got := ints.Cmp(integer(p[0]), integer(p[1])); got != p[0].Cmp(p[1]) {
			t.Fatalf("Cmp(%s, %s): %d", p[0], p[1], got)
		}
	}
}

// The types of the chapter: the zero value is 0, == holds exactly for the same number, however it was made,
// and no field is exported.
func TestEqualValues(t *testing.T) {
	if ints.Of(0) != (ints.Int{}) || ints.Text(ints.Int{}) != "0" {
		t.Error("the zero value is not 0")
	}
	keys := map[ints.Int]bool{}
	texts := map[string]bool{}
	for _, p := range pairs() {
		a, b := integer(p[0]), integer(p[1])
		for _, same := range []ints.Int{
			ints.Add(ints.Sub(a, b), b), ints.Sub(ints.Add(a, b), b), ints.Neg(ints.Neg(a)),
			ints.Mul(ints.Mul(a, ints.Of(-1)), ints.Of(-1)), ints.From(p[0].Sign() < 0, ints.Abs(a)),
		} {
			if same != a {
				t.Fatalf("%s, made from %s, is not equal to itself", p[0], p[1])
			}
		}
		if (a == b) != (p[0].Cmp(p[1]) == 0) {
			t.Fatalf("%s == %s is %t", p[0], p[1], a == b)
		}
		keys[a], texts[p[0].String()] = true, true
	}
	if len(keys) != len(texts) {
		t.Errorf("%d values for %d numbers", len(keys), len(texts))
	}
	for _, field := range reflect.VisibleFields(reflect.TypeFor[ints.Int]()) {
		if field.IsExported() {
			t.Errorf("field %s is exported", field.Name)
		}
	}
}

// P2.2: Add, Sub, Mul.
func TestSums(t *testing.T) {
	for _, p := range pairs() {
		a, b := integer(p[0]), integer(p[1])
		want(t, "Add", ints.Add(a, b), new(big.Int).Add(p[0], p[1]))
		want(t, "Sub", ints.Sub(a, b), new(big.Int).Sub(p[0], p[1]))
		want(t, "Mul", ints.Mul(a, b), new(big.Int).Mul(p[0], p[1]))
	}
}

// P2.2: every pair of signs, with an absolute value that is less, the same, or greater.
func TestSumsBySigns(t *testing.T) {
	for a := int64(-6); a <= 6; a++ {
		for b := int64(-6); b <= 6; b++ {
			if ints.Add(ints.Of(a), ints.Of(b)) != ints.Of(a+b) {
				t.Errorf("%d + %d", a, b)
			}
			if ints.Sub(ints.Of(a), ints.Of(b)) != ints.Of(a-b) {
				t.Errorf("%d - %d", a, b)
			}
			if ints.Mul(ints.Of(a), ints.Of(b)) != ints.Of(a*b) {
				t.Errorf("%d * %d", a, b)
			}
		}
	}
}

// P2.4: Text and Parse at numbers of all lengths and both signs.
func TestTextAndParse(t *testing.T) {
	list := edges()
	s := &series{555}
	for i := range 200 {
		list = append(list, s.number(1+i%20))
	}
	for _, n := range list {
		if got := ints.Text(integer(n)); got != n.String() {
			t.Fatalf("Text of %s: %s", n, got)
		}
		a, e := ints.Parse(n.String())
		wantCode(t, n.String(), a, e, api.OK)
		want(t, "Parse", a, n)
	}
}

// wantCode fails unless got is code, and the number is 0 if code is an error.
func wantCode(t *testing.T, s string, a ints.Int, got, code api.Errno) {
	t.Helper()
	if got != code || code != api.OK && a != (ints.Int{}) {
		t.Errorf("Parse(%.40q): number %s, error %d; want error %d", s, ints.Text(a), got, code)
	}
}

// P2.4: strings that are not a decimal form.
func TestParseForm(t *testing.T) {
	for _, s := range []string{
		"", "-", "--", "---", "-0", "--0", "--1", "---1", "00", "-00", "01", "-01", "-007", "012", "-0000000000000000000001",
		"+", "+0", "+1", "+-1", "-+1", "1-", "1-1", "-1-", "0-", "- 1", " -1", "-1 ", " 1", "1 ", "-\t1", "-1\n", "\x00-1",
		"-1.0", "-.", "-1e3", "-0x10", "0x10", "-1_000", "-1,000", "-a", "-12a", "-/", "-:", "1/2", "-1/2",
		"\u22121", "\u20131", "-\u0661", "-\xff", "\xff-1", "\xad1", "-18446744073709551616x",
		"-" + strings.Repeat("0", api.MaxDigits), strings.Repeat("0", api.MaxDigits),
	} {
		a, e := ints.Parse(s)
		wantCode(t, s, a, e, api.ErrForm)
	}
}

// P2.4: strings of MaxDigits bytes and one more, where a leading "-" does not count. The limit counts before
// the form does.
func TestParseLimit(t *testing.T) {
	nines := strings.Repeat("9", api.MaxDigits)
	ten := "1" + strings.Repeat("0", api.MaxDigits-1)
	for _, s := range []string{nines, ten, nines[1:], "-" + nines, "-" + ten, "-" + nines[1:]} {
		a, e := ints.Parse(s)
		wantCode(t, s, a, e, api.OK)
		want(t, "Parse", a, num(s))
	}
	for _, s := range []string{
		nines + "9", "-" + nines + "9", ten + "0", "-" + ten + "0", "--" + nines, "0" + nines, "-0" + nines, "+" + nines,
		nines + "-", "-" + nines + "x", " -" + nines[1:], strings.Repeat("-", api.MaxDigits+2), strings.Repeat("x", 100000),
	} {
		a, e := ints.Parse(s)
		wantCode(t, s, a, e, api.ErrLimit)
	}
	for _, s := range []string{
		"--" + nines[1:], "-0" + nines[1:], "0" + nines[1:], "-" + nines[1:] + "x", "+" + nines[1:], nines[1:] + "-",
		strings.Repeat("-", api.MaxDigits), strings.Repeat("-", api.MaxDigits+1),
	} {
		a, e := ints.Parse(s)
		wantCode(t, s, a, e, api.ErrForm)
	}
}

// P2.4: only strings are limited: a number may have more digits.
func TestLongText(t *testing.T) {
	nines := strings.Repeat("9", api.MaxDigits)
	a, _ := ints.Parse("-" + nines)
	if s := ints.Text(ints.Sub(a, ints.Of(1))); s != "-1"+strings.Repeat("0", api.MaxDigits) {
		t.Error("the text of -10^4096 is wrong")
	}
	if s := ints.Text(ints.Neg(ints.Sub(a, ints.Of(1)))); s != "1"+strings.Repeat("0", api.MaxDigits) {
		t.Error("the text of 10^4096 is wrong")
	}
}
