package fracs_test

import (
	"math"
	"math/big"
	"reflect"
	"testing"

	"gusset/api"
	"gusset/fracs"
	"gusset/ints"
	"gusset/nats"
)

// words returns int64s of either sign: 0, small ones, and those at the ends.
func words() []int64 {
	return []int64{
		0, 1, -1, 2, -2, 3, -3, 4, -4, 6, -6, 10, -10, 12, -12, 1 << 32, -1 << 32, 6 << 40, -6 << 40,
		math.MaxInt64, math.MaxInt64 - 1, -math.MaxInt64, math.MinInt64, math.MinInt64 + 2,
	}
}

// P3.1: Of, with either sign in either place, at the ends of int64, and by 0.
func TestOf(t *testing.T) {
	for _, n := range words() {
		for _, d := range words() {
			a, e := fracs.Of(n, d)
			if d == 0 {
				wantCode(t, "Of(n, 0)", a, e, api.ErrZero)
				continue
			}
			wantCode(t, "Of", a, e, api.OK)
			want(t, "Of", a, over(big.NewInt(n), big.NewInt(d)))
		}
	}
	for _, x := range []struct {
		n, d int64
		want string
	}{
		{math.MinInt64, math.MinInt64, "1"}, {math.MinInt64, 1, "-9223372036854775808"}, {math.MinInt64, -1, "9223372036854775808"},
		{1, math.MinInt64, "-1/9223372036854775808"}, {-1, math.MinInt64, "1/9223372036854775808"},
		{math.MinInt64, 6, "-4611686018427387904/3"}, {-6, math.MinInt64, "3/4611686018427387904"}, {0, math.MinInt64, "0"},
		{math.MaxInt64, math.MinInt64, "-9223372036854775807/9223372036854775808"},
	} {
		if a, e := fracs.Of(x.n, x.d); fracs.Text(a) != x.want || e != api.OK {
			t.Errorf("Of(%d, %d): %s, error %d", x.n, x.d, fracs.Text(a), e)
		}
	}
}

// P3.1: Int.
func TestInt(t *testing.T) {
	for _, n := range words() {
		want(t, "Int", fracs.Int(n), new(big.Rat).SetInt64(n))
	}
}

// P3.1: From returns lowest terms, whatever is common to its arguments.
func TestFrom(t *testing.T) {
	s := &series{4711}
	commons := []*big.Int{big.NewInt(1), big.NewInt(2), big.NewInt(6), power(64, 0), power(64, -1), power(1000, 0)}
	for n := range 12 {
		commons = append(commons, s.size(5*n+1))
	}
	for _, common := range commons {
		for _, r := range edges() {
			n, d := product(r.Num(), common), product(r.Denom(), common)
			a, e := fracs.From(integer(n), nat(d))
			wantCode(t, "From", a, e, api.OK)
			want(t, "From", a, r)
		}
	}
}

// P3.1: From with 0 in either place.
func TestFromZero(t *testing.T) {
	for _, r := range edges() {
		a, e := fracs.From(integer(r.Num()), nats.Of(0))
		wantCode(t, "From(n, 0)", a, e, api.ErrZero)
		a, e = fracs.From(integer(r.Num()), nats.Nat{})
		wantCode(t, "From(n, the zero value)", a, e, api.ErrZero)
		a, e = fracs.From(ints.Int{}, nat(r.Denom()))
		if a != (fracs.Frac{}) || e != api.OK {
			t.Errorf("From(0, %s): %s, error %d", r.Denom(), fracs.Text(a), e)
		}
	}
}

// P3.1: Num, Den and Whole of the zero value, of integers and of fractions.
func TestParts(t *testing.T) {
	var zero fracs.Frac
	if fracs.Num(zero) != ints.Of(0) || fracs.Den(zero) != nats.Of(1) || !fracs.Whole(zero) {
		t.Errorf("the zero value is %s/%s", ints.Text(fracs.Num(zero)), nats.Text(fracs.Den(zero)))
	}
	for _, x := range []struct {
		s     string
		num   int64
		den   uint64
		whole bool
	}{
		{"0/9", 0, 1, true}, {"4", 4, 1, true}, {"-4", -4, 1, true}, {"-8/4", -2, 1, true}, {"1/2", 1, 2, false},
		{"-6/4", -3, 2, false}, {"5/10", 1, 2, false}, {"18446744073709551615/18446744073709551615", 1, 1, true},
		{"2/36893488147419103230", 1, 1<<64 - 1, false},
	} {
		a := read(t, x.s)
		if fracs.Num(a) != ints.Of(x.num) || fracs.Den(a) != nats.Of(x.den) || fracs.Whole(a) != x.whole {
			t.Errorf("%s: %s, %s, %t", x.s, ints.Text(fracs.Num(a)), nats.Text(fracs.Den(a)), fracs.Whole(a))
		}
	}
}

// floor returns the greatest integer that is at most r.
func floor(r *big.Rat) *big.Int {
	q, _ := new(big.Int).DivMod(r.Num(), r.Denom(), new(big.Int))
	return q
}

// P3.4: Floor and Ceil, at and beside integers of either sign.
func TestFloorAndCeil(t *testing.T) {
	list := edges()
	tiny := over(big.NewInt(1), power(200, 0))
	for _, r := range edges() {
		whole := new(big.Rat).SetInt(floor(r))
		list = append(list, whole, new(big.Rat).Add(whole, tiny), new(big.Rat).Sub(whole, tiny))
	}
	s := &series{99}
	for i := range 300 {
		list = append(list, s.fraction(1+i%4))
	}
	for _, r := range list {
		low := floor(r)
		high := new(big.Int).Neg(floor(negative(r)))
		if got := fracs.Floor(frac(r)); got != integer(low) {
			t.Errorf("Floor(%s): %s", r, ints.Text(got))
		}
		if got := fracs.Ceil(frac(r)); got != integer(high) {
			t.Errorf("Ceil(%s): %s", r, ints.Text(got))
		}
	}
}

// P3.4: Floor and Ceil around 0.
func TestSmallFloorAndCeil(t *testing.T) {
	for _, x := range []struct {
		s         string
		low, high int64
	}{
		{"0", 0, 0}, {"1", 1, 1}, {"-1", -1, -1}, {"-2", -2, -2}, {"1/2", 0, 1}, {"-1/2", -1, 0}, {"1/3", 0, 1}, {"-1/3", -1, 0},
		{"2/3", 0, 1}, {"-2/3", -1, 0}, {"3/2", 1, 2}, {"-3/2", -2, -1}, {"7/3", 2, 3}, {"-7/3", -3, -2}, {"-8/3", -3, -2},
		{"1/18446744073709551616", 0, 1}, {"-1/18446744073709551616", -1, 0},
		{"-9223372036854775808", math.MinInt64, math.MinInt64}, {"9223372036854775807", math.MaxInt64, math.MaxInt64},
	} {
		a := read(t, x.s)
		if fracs.Floor(a) != ints.Of(x.low) || fracs.Ceil(a) != ints.Of(x.high) {
			t.Errorf("%s: from %s to %s", x.s, ints.Text(fracs.Floor(a)), ints.Text(fracs.Ceil(a)))
		}
	}
	if fracs.Floor(fracs.Frac{}) != (ints.Int{}) || fracs.Ceil(fracs.Frac{}) != (ints.Int{}) {
		t.Error("Floor or Ceil of the zero value is not 0")
	}
}

// The types of the chapter: the zero value is 0, and == holds exactly for the same number, however it was made.
func TestEqualValues(t *testing.T) {
	if fracs.Int(0) != (fracs.Frac{}) || fracs.Text(fracs.Frac{}) != "0" {
		t.Error("the zero value is not 0")
	}
	keys := map[fracs.Frac]bool{}
	texts := map[string]bool{}
	for _, p := range pairs() {
		a, b := frac(p[0]), frac(p[1])
		for _, same := range []fracs.Frac{
			fracs.Add(fracs.Sub(a, b), b), fracs.Sub(fracs.Add(a, b), b), fracs.Neg(fracs.Neg(a)), fracs.Mul(a, fracs.Int(1)),
			fracs.Sum(b, a, fracs.Neg(b)), fracs.Max(a, a), fracs.Min(a, a), read(t, p[0].String()),
		} {
			if same != a {
				t.Fatalf("%s, made from %s, is not equal to itself", p[0], p[1])
			}
		}
		if (a == b) != (p[0].Cmp(p[1]) == 0) {
			t.Fatalf("%s == %s is %t", p[0], p[1], a == b)
		}
		keys[a], texts[p[0].String()] = true, true
	}
	if len(keys) != len(texts) {
		t.Errorf("%d values for %d numbers", len(keys), len(texts))
	}
}

// The section Terms: a number is a struct without exported fields. The chapter gives a Frac no methods.
func TestNothingExported(t *testing.T) {
	of := reflect.TypeFor[fracs.Frac]()
	for _, field := range reflect.VisibleFields(of) {
		if field.IsExported() {
			t.Errorf("field %s is exported", field.Name)
		}
	}
	if n := reflect.PointerTo(of).NumMethod(); n != 0 {
		t.Errorf("%d methods are exported", n)
	}
}

// The chapter's table of examples, and the first example of the document.
func TestExamples(t *testing.T) {
	half, third := read(t, "1/2"), read(t, "1/3")
	quotient, _ := fracs.Div(half, read(t, "-1/4"))
	inverse, _ := fracs.Pow(read(t, "2/3"), -2)
	one, _ := fracs.Pow(fracs.Int(0), 0)
	for _, x := range []struct {
		what string
		got  fracs.Frac
		want string
	}{
		{"1/2 + 1/3", fracs.Add(half, third), "5/6"}, {"10/12", fracs.Add(half, third), "10/12"},
		{"1/2 - 1/2", fracs.Sub(half, half), "0"}, {"2/3 3/2", fracs.Mul(read(t, "2/3"), read(t, "3/2")), "1"},
		{"1/2 / -1/4", quotient, "-2"}, {"2/3 to -2", inverse, "9/4"}, {"0 to 0", one, "1"},
		{"Max()", fracs.Max(), "0"}, {"Max(-1, -1/2)", fracs.Max(fracs.Int(-1), read(t, "-1/2")), "-1/2"},
	} {
		if x.got != read(t, x.want) {
			t.Errorf("%s: %s", x.what, fracs.Text(x.got))
		}
	}
	if ints.Text(fracs.Floor(read(t, "-3/2"))) != "-2" || ints.Text(fracs.Ceil(read(t, "-3/2"))) != "-1" {
		t.Error("Floor or Ceil of -3/2")
	}
	if a, e := fracs.Of(6, -4); fracs.Text(a) != "-3/2" || e != api.OK {
		t.Errorf("Of(6, -4): %s", fracs.Text(a))
	}
	if a, e := fracs.Of(0, -5); fracs.Text(a) != "0" || e != api.OK {
		t.Errorf("Of(0, -5): %s", fracs.Text(a))
	}
}
