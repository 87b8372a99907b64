package nats_test

import (
	"math"
	"math/big"
	"strings"
	"testing"

	"gusset/api"
	"gusset/nats"
)

// P1.1: Of and U64 are inverse below 2^64, and U64 refuses every number from there on.
func TestOfAndU64(t *testing.T) {
	for _, n := range []uint64{0, 1, 9, 1<<32 - 1, 1 << 32, 1<<63 - 1, 1 << 63, 1<<64 - 1} {
		a := nats.Of(n)
		want(t, "Of", a, new(big.Int).SetUint64(n))
		if got, ok := a.U64(); got != n || !ok {
			t.Errorf("U64 of %d: %d, %t", n, got, ok)
		}
	}
	for _, n := range []*big.Int{power(64, 0), power(64, 1), power(65, -1), power(128, 0), power(200, 7)} {
		if got, ok := nat(n).U64(); got != 0 || ok {
			t.Errorf("U64 of %s: %d, %t", n, got, ok)
		}
	}
}

// P1.1: the zero value is 0, and == holds exactly for the same number, however it was made.
func TestEqualValues(t *testing.T) {
	if nats.Of(0) != (nats.Nat{}) || nats.Text(nats.Nat{}) != "0" {
		t.Error("the zero value is not 0")
	}
	up := nat(power(64, 3))
	down, _ := nats.Sub(up, nat(power(64, -4)))
	if down != nats.Of(7) {
		t.Error("7 made by a difference is not 7")
	}
	quotient, rest, _ := nats.Div(nat(power(192, 5)), nat(power(128, 0)))
	if quotient != nat(power(64, 0)) || rest != nats.Of(5) {
		t.Error("a quotient and a remainder are not equal to themselves")
	}
	keys := map[nats.Nat]int{}
	for i, n := range edges() {
		keys[nat(n)] = i
		if parsed, e := nats.Parse(n.String()); e != api.OK || parsed != nat(n) {
			t.Errorf("%s, parsed, is not equal to itself", n)
		}
	}
	texts := map[string]bool{}
	for _, n := range edges() {
		texts[n.String()] = true
	}
	if len(keys) != len(texts) {
		t.Errorf("%d values for %d numbers", len(keys), len(texts))
	}
}

// P1.1: Cmp.
func TestCmp(t *testing.T) {
	for _, p := range pairs() {
		if got := nats.Cmp(nat(p[0]), nat(p[1])); got != p[0].Cmp(p[1]) {
			t.Fatalf("Cmp(%s, %s): %d", p[0], p[1], got)
		}
	}
}

// P1.2: Add, Sub, Mul.
func TestSums(t *testing.T) {
	for _, p := range pairs() {
		a, b := nat(p[0]), nat(p[1])
		want(t, "Add", nats.Add(a, b), new(big.Int).Add(p[0], p[1]))
		want(t, "Mul", nats.Mul(a, b), new(big.Int).Mul(p[0], p[1]))
		difference, ok := nats.Sub(a, b)
		if p[0].Cmp(p[1]) < 0 {
			if ok || difference != (nats.Nat{}) {
				t.Fatalf("Sub(%s, %s): %s, %t", p[0], p[1], nats.Text(difference), ok)
			}
			continue
		}
		if !ok {
			t.Fatalf("Sub(%s, %s) is refused", p[0], p[1])
		}
		want(t, "Sub", difference, new(big.Int).Sub(p[0], p[1]))
	}
}

// P1.2: carries and borrows pass through many digits.
func TestLongCarries(t *testing.T) {
	for _, n := range []uint{64, 128, 640, 6400} {
		want(t, "Add", nats.Add(nat(power(n, -1)), nats.Of(1)), power(n, 0))
		want(t, "Add", nats.Add(nats.Of(2), nat(power(n, -1))), power(n, 1))
		difference, ok := nats.Sub(nat(power(n, 0)), nats.Of(1))
		if !ok {
			t.Fatal("a difference is refused")
		}
		want(t, "Sub", difference, power(n, -1))
		square := new(big.Int).Mul(power(n, -1), power(n, -1))
		want(t, "Mul", nats.Mul(nat(power(n, -1)), nat(power(n, -1))), square)
	}
}

// checkDiv compares Div of a and b, where b is not 0, with math/big.
func checkDiv(t *testing.T, a, b *big.Int) {
	t.Helper()
	q, r, ok := nats.Div(nat(a), nat(b))
	if !ok {
		t.Fatalf("Div(%s, %s) is refused", a, b)
	}
	quotient, rest := new(big.Int).QuoRem(a, b, new(big.Int))
	want(t, "quotient", q, quotient)
	want(t, "remainder", r, rest)
}

// P1.3: Div, and its refusal of 0.
func TestDiv(t *testing.T) {
	for _, p := range pairs() {
		if p[1].Sign() != 0 {
			checkDiv(t, p[0], p[1])
			continue
		}
		if q, r, ok := nats.Div(nat(p[0]), nats.Of(0)); ok || q != (nats.Nat{}) || r != (nats.Nat{}) {
			t.Fatalf("Div(%s, 0): %s, %s, %t", p[0], nats.Text(q), nats.Text(r), ok)
		}
	}
}

// P1.3: divisors for which the first guess of a quotient digit is too great, by 1 or by 2, or has to be cut.
func TestDivCorrections(t *testing.T) {
	const top = 1 << 63
	const full = 1<<64 - 1
	for _, x := range []struct{ a, b *big.Int }{
		{fromDigits(top, 0, 3), fromDigits(top>>2, 0, 1)},
		{fromDigits(top-1, top, 0, 0), fromDigits(top, 0, 1)},
		{fromDigits(top, full-1, 0), fromDigits(top, full)},
		{fromDigits(top, 0, 0, 0), fromDigits(top, 0, 1)},
		{fromDigits(top, full, full, 0), fromDigits(top, full, full)},
		{fromDigits(top, 0, full, full), fromDigits(top, 1, 0)},
		{fromDigits(full, full, full-1, full), fromDigits(full, full, full)},
		{fromDigits(1, 0, 0, 0), fromDigits(full, full)},
		{fromDigits(full, 0, 0, 0, 0), fromDigits(full, full, full)},
		{fromDigits(7, 0, 0), fromDigits(7, full)},
		{fromDigits(7, 6, full), fromDigits(7, 7)},
	} {
		checkDiv(t, x.a, x.b)
	}
	// Just below a multiple, and at it: the quotient digits are as great as the divisor lets them be.
	for _, b := range edges() {
		if b.Sign() == 0 {
			continue
		}
		for _, factor := range []*big.Int{power(64, -1), power(128, -1), fromDigits(full, 0, full)} {
			product := new(big.Int).Mul(b, factor)
			checkDiv(t, product, b)
			checkDiv(t, product.Sub(product, big.NewInt(1)), b)
		}
	}
}

// P1.3: Gcd, with 0 on either side.
func TestGcd(t *testing.T) {
	for _, p := range pairs() {
		want(t, "Gcd", nats.Gcd(nat(p[0]), nat(p[1])), new(big.Int).GCD(nil, nil, p[0], p[1]))
	}
	for _, n := range edges() {
		want(t, "Gcd(a, 0)", nats.Gcd(nat(n), nats.Of(0)), n)
		want(t, "Gcd(0, a)", nats.Gcd(nats.Of(0), nat(n)), n)
	}
}

// P1.3: numbers with a long common divisor, of like and of very different lengths.
func TestGcdOfMultiples(t *testing.T) {
	s := &series{1234567}
	for i := range 600 {
		common := s.number(1 + i%6)
		a, b := s.number(1+i%11), s.number(1+i/11%17)
		a.Mul(a, common)
		b.Mul(b, common)
		want(t, "Gcd", nats.Gcd(nat(a), nat(b)), new(big.Int).GCD(nil, nil, a, b))
		want(t, "Gcd", nats.Gcd(nat(a), nat(common)), new(big.Int).GCD(nil, nil, a, common))
	}
}

// P1.3: Fibonacci numbers need the most steps.
func TestGcdOfFibonacciNumbers(t *testing.T) {
	list := []nats.Nat{nats.Of(0), nats.Of(1)}
	for i := 2; i <= 1500; i++ {
		list = append(list, nats.Add(list[i-1], list[i-2]))
	}
	for i := range 1500 {
		if nats.Gcd(list[i], list[i+1]) != nats.Of(1) {
			t.Fatalf("neighbours %d and %d have a common divisor", i, i+1)
		}
	}
	// Gcd(F(m), F(n)) is F(Gcd(m, n)).
	if nats.Gcd(list[1500], list[1000]) != list[500] || nats.Gcd(list[1024], list[1280]) != list[256] {
		t.Error("a common divisor of Fibonacci numbers is wrong")
	}
}

// P1.4: Pow.
func TestPow(t *testing.T) {
	for _, base := range append(edges(), power(600, 3)) {
		for _, n := range []int{0, 1, 2, 3, 4, 5, 7, 8, 13} {
			p, e := nats.Pow(nat(base), n)
			if e != api.OK {
				t.Fatalf("Pow(%s, %d): error %d", base, n, e)
			}
			want(t, "Pow", p, new(big.Int).Exp(base, big.NewInt(int64(n)), nil))
		}
	}
	for n := range 130 {
		p, e := nats.Pow(nats.Of(7), n)
		wantCode(t, "Pow", p, e, api.OK)
		want(t, "Pow", p, new(big.Int).Exp(big.NewInt(7), big.NewInt(int64(n)), nil))
	}
}

// greatNumber returns 2^262144.
func greatNumber() nats.Nat {
	out := nats.Of(1 << 32)
	for range 13 {
		out = nats.Mul(out, out)
	}
	return out
}

// P1.4: exponents out of range, and powers at and beyond MaxPower.
func TestPowLimits(t *testing.T) {
	if nats.MaxPower != 262144 {
		t.Fatal("MaxPower")
	}
	great := greatNumber() // one binary digit more than a power may have
	greatest, _ := nats.Sub(great, nats.Of(1))
	for i, x := range []struct {
		base nats.Nat
		n    int
		e    api.Errno
	}{
		{nats.Of(2), -1, api.ErrArg},
		{nats.Of(0), -1, api.ErrArg},
		{nats.Of(1), math.MinInt, api.ErrArg},
		{great, -1, api.ErrArg}, // named before ErrLimit
		{nats.Of(0), 4096, api.OK},
		{nats.Of(0), 4097, api.ErrLimit},
		{nats.Of(1), 4097, api.ErrLimit},
		{nats.Of(1), math.MaxInt, api.ErrLimit},
		{nats.Of(1 << 63), 4096, api.OK}, // 64 * 4096 = 262144
		{nats.Of(1 << 63), 4097, api.ErrLimit},
		{nat(power(64, 0)), 4032, api.OK},        // 65 * 4032 = 262080
		{nat(power(64, 0)), 4033, api.ErrLimit},  // 65 * 4033 = 262145
		{nat(power(127, 0)), 2048, api.OK},       // 128 * 2048 = 262144
		{nat(power(127, 0)), 2049, api.ErrLimit}, // 128 * 2049 = 262272
		{greatest, 1, api.OK},
		{greatest, 2, api.ErrLimit},
		{great, 0, api.OK},
		{great, 1, api.ErrLimit},
		{great, 4096, api.ErrLimit},
	} {
		p, e := nats.Pow(x.base, x.n)
		if e != x.e || e != api.OK && p != (nats.Nat{}) {
			t.Errorf("%d: power to %d: error %d, want %d", i, x.n, e, x.e)
		}
	}
}

// P1.4: the greatest powers come out whole.
func TestGreatPowers(t *testing.T) {
	for _, x := range []struct {
		base, n, bits int
	}{{0, 4096, 0}, {1, 4096, 1}, {2, 4096, 4097}, {3, 4096, 6493}, {10, 4096, 13607}} {
		p, e := nats.Pow(nats.Of(uint64(x.base)), x.n)
		if e != api.OK || nats.Bits(p) != x.bits {
			t.Fatalf("Pow(%d, %d): error %d, %d binary digits", x.base, x.n, e, nats.Bits(p))
		}
		want(t, "Pow", p, new(big.Int).Exp(big.NewInt(int64(x.base)), big.NewInt(int64(x.n)), nil))
	}
	great := greatNumber()
	for _, x := range []struct{ exponent, n int }{{63, 4096}, {64, 4032}, {127, 2048}, {4095, 64}} {
		p, e := nats.Pow(nat(power(uint(x.exponent), 0)), x.n)
		// As much as is missing to 2^262144 leads to it.
		rest := nat(power(uint(nats.MaxPower-x.exponent*x.n), 0))
		if e != api.OK || nats.Bits(p) != x.exponent*x.n+1 || nats.Mul(p, rest) != great {
			t.Errorf("2^%d to the power %d is wrong (error %d)", x.exponent, x.n, e)
		}
	}
	if p, _ := nats.Pow(nats.Of(0), 0); p != nats.Of(1) {
		t.Error("Pow(0, 0) is not 1")
	}
}

// P1.4: Sqrt at squares, just below them, and between them.
func TestSqrt(t *testing.T) {
	for n := range uint64(1000) {
		want(t, "Sqrt", nats.Sqrt(nats.Of(n)), new(big.Int).Sqrt(new(big.Int).SetUint64(n)))
	}
	s := &series{987654321}
	roots := edges()
	for i := range 300 {
		roots = append(roots, s.number(1+i%12))
	}
	for _, root := range roots {
		square := new(big.Int).Mul(root, root)
		for _, plus := range []*big.Int{big.NewInt(-1), big.NewInt(0), big.NewInt(1), root, new(big.Int).Lsh(root, 1)} {
			n := new(big.Int).Add(square, plus)
			if n.Sign() >= 0 {
				want(t, "Sqrt", nats.Sqrt(nat(n)), new(big.Int).Sqrt(n))
			}
		}
	}
}

// P1.4: Bits.
func TestBits(t *testing.T) {
	if nats.Bits(nats.Of(0)) != 0 {
		t.Error("Bits(0) is not 0")
	}
	for n := range uint(300) {
		if got := nats.Bits(nat(power(n, 0))); got != int(n)+1 {
			t.Errorf("Bits(2^%d): %d", n, got)
		}
		if got := nats.Bits(nat(power(n, -1))); got != int(n) {
			t.Errorf("Bits(2^%d - 1): %d", n, got)
		}
	}
}

// P1.5: Text and Parse, at numbers whose decimal digits are mostly 0 or mostly 9, and at others.
func TestTextAndParse(t *testing.T) {
	list := edges()
	for n := range 120 {
		p := new(big.Int).Exp(big.NewInt(10), big.NewInt(int64(n)), nil)
		list = append(list, p, new(big.Int).Add(p, big.NewInt(1)), new(big.Int).Sub(p, big.NewInt(1)))
	}
	s := &series{555}
	for i := range 300 {
		list = append(list, s.number(1+i%20))
	}
	for _, n := range list {
		if got := nats.Text(nat(n)); got != n.String() {
			t.Fatalf("Text of %s: %s", n, got)
		}
		a, e := nats.Parse(n.String())
		wantCode(t, "Parse", a, e, api.OK)
		want(t, "Parse", a, n)
	}
}

// P1.5: strings that are not a decimal form.
func TestParseForm(t *testing.T) {
	for _, s := range []string{
		"", "00", "01", "007", "0000000000000000000000001", "-0", "-1", "--1", "+0", "+1", "1.0", ".", "1e3", "0x10", "0b1",
		" ", " 1", "1 ", "1 2", "\t1", "1\n", "\x00", "1\x00", "1_000", "1,000", "a", "12a", "a12", "/", ":", "1/", "1:", "1/2",
		"\u0661", "\uff11", "1\u0662", "\xff", "1\xff", "\xb1", "18446744073709551616x", strings.Repeat("0", api.MaxDigits),
	} {
		a, e := nats.Parse(s)
		wantCode(t, "Parse of "+s, a, e, api.ErrForm)
	}
}

// P1.5: strings of MaxDigits bytes and one more. The limit counts before the form does.
func TestParseLimit(t *testing.T) {
	nines := strings.Repeat("9", api.MaxDigits)
	ten := "1" + strings.Repeat("0", api.MaxDigits-1)
	for _, s := range []string{nines, ten, nines[1:], ten[:api.MaxDigits-1]} {
		n, _ := new(big.Int).SetString(s, 10)
		a, e := nats.Parse(s)
		wantCode(t, "Parse", a, e, api.OK)
		want(t, "Parse", a, n)
	}
	for _, s := range []string{nines + "9", ten + "0", nines + "x", "-" + nines, "0" + nines, strings.Repeat("x", 100000)} {
		a, e := nats.Parse(s)
		wantCode(t, "Parse", a, e, api.ErrLimit)
	}
	for _, s := range []string{nines[1:] + "x", "0" + nines[1:], "x" + nines[1:], "-" + nines[1:]} {
		a, e := nats.Parse(s)
		wantCode(t, "Parse", a, e, api.ErrForm)
	}
	// Only strings are limited: a number may have more digits.
	longest, _ := nats.Parse(nines)
	if s := nats.Text(nats.Add(longest, nats.Of(1))); s != ten+"0" {
		t.Error("the text of 10^4096 is wrong")
	}
}

// The chapter's table of examples.
func TestExamples(t *testing.T) {
	parse := func(s string) nats.Nat {
		a, e := nats.Parse(s)
		wantCode(t, s, a, e, api.OK)
		return a
	}
	pow := func(a uint64, n int) nats.Nat {
		p, e := nats.Pow(nats.Of(a), n)
		wantCode(t, "Pow", p, e, api.OK)
		return p
	}
	last := nats.Of(1<<64 - 1)
	if nats.Text(nats.Mul(last, last)) != "340282366920938463426481119284349108225" {
		t.Error("Mul")
	}
	if q, r, ok := nats.Div(pow(10, 20), nats.Of(7)); q != parse("14285714285714285714") || r != nats.Of(2) || !ok {
		t.Error("Div")
	}
	less, _ := nats.Sub(pow(10, 20), nats.Of(1))
	if nats.Gcd(pow(2, 70), pow(6, 20)) != nats.Of(1048576) || nats.Sqrt(less) != nats.Of(9999999999) || nats.Bits(pow(2, 64)) != 65 {
		t.Error("Gcd, Sqrt, Bits")
	}
}
