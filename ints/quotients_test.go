package ints_test

import (
	"math"
	"math/big"
	"testing"

	"gusset/ints"
)

// P2.3: Div of both signs, and its refusal of 0.
func TestDiv(t *testing.T) {
	for _, p := range pairs() {
		q, r, ok := ints.Div(integer(p[0]), integer(p[1]))
		if p[1].Sign() == 0 {
			if q != (ints.Int{}) || r != (ints.Int{}) || ok {
				t.Fatalf("Div(%s, 0): %s, %s, %t", p[0], ints.Text(q), ints.Text(r), ok)
			}
			continue
		}
		if !ok {
			t.Fatalf("Div(%s, %s) is refused", p[0], p[1])
		}
		// math/big calls the division with a remainder from 0 to |b| - 1 DivMod.
		quotient, rest := new(big.Int).DivMod(p[0], p[1], new(big.Int))
		want(t, "quotient", q, quotient)
		want(t, "remainder", r, rest)
	}
}

// P2.3: multiples of the divisor, and their neighbours, of either sign.
func TestDivAtMultiples(t *testing.T) {
	for _, b := range edges() {
		for _, factor := range edges() {
			for plus := int64(-1); b.Sign() != 0 && plus <= 1; plus++ {
				a := new(big.Int).Mul(b, factor)
				a.Add(a, big.NewInt(plus))
				q, r, ok := ints.Div(integer(a), integer(b))
				quotient, rest := new(big.Int).DivMod(a, b, new(big.Int))
				if !ok {
					t.Fatalf("Div(%s, %s) is refused", a, b)
				}
				want(t, "quotient", q, quotient)
				want(t, "remainder", r, rest)
			}
		}
	}
}

// P2.3: quotients at the ends of int64.
func TestDivOfLeast(t *testing.T) {
	least := ints.Of(math.MinInt64)
	for _, x := range []struct {
		b    int64
		q, r string
	}{
		{1, "-9223372036854775808", "0"}, {-1, "9223372036854775808", "0"}, {math.MinInt64, "1", "0"},
		{math.MaxInt64, "-2", "9223372036854775806"}, {-math.MaxInt64, "2", "9223372036854775806"}, {10, "-922337203685477581", "2"},
	} {
		q, r, ok := ints.Div(least, ints.Of(x.b))
		if ints.Text(q) != x.q || ints.Text(r) != x.r || !ok {
			t.Errorf("Div(-2^63, %d): %s, %s, %t", x.b, ints.Text(q), ints.Text(r), ok)
		}
	}
}

// bezout returns what the chapter's definition of Gcd says, word for word.
func bezout(a, b *big.Int) (g, x, y *big.Int) {
	if b.Sign() == 0 {
		return new(big.Int).Abs(a), big.NewInt(int64(a.Sign())), new(big.Int)
	}
	q, r := new(big.Int).DivMod(a, b, new(big.Int))
	g, x, y = bezout(b, r)
	return g, y, new(big.Int).Sub(x, q.Mul(q, y))
}

// checkGcd compares Gcd of a and b with the definition.
func checkGcd(t *testing.T, a, b *big.Int) {
	t.Helper()
	g, x, y := ints.Gcd(integer(a), integer(b))
	wantG, wantX, wantY := bezout(a, b)
	want(t, "divisor of "+a.String()+" and "+b.String(), g, wantG)
	want(t, "x of "+a.String()+" and "+b.String(), x, wantX)
	want(t, "y of "+a.String()+" and "+b.String(), y, wantY)
	sum := ints.Add(ints.Mul(integer(a), x), ints.Mul(integer(b), y))
	want(t, "a x + b y", sum, new(big.Int).GCD(nil, nil, new(big.Int).Abs(a), new(big.Int).Abs(b)))
}

// P2.3: Gcd, its x and its y.
func TestGcd(t *testing.T) {
	for _, p := range pairs() {
		checkGcd(t, p[0], p[1])
	}
	for a := int64(-30); a <= 30; a++ {
		for b := int64(-30); b <= 30; b++ {
			checkGcd(t, big.NewInt(a), big.NewInt(b))
		}
	}
}

// P2.3: where the algorithm ends at once: b is 0, or a multiple of a, or a divisor of it.
func TestGcdOfFewSteps(t *testing.T) {
	for _, n := range edges() {
		checkGcd(t, n, big.NewInt(0))
		checkGcd(t, big.NewInt(0), n)
		for _, factor := range []int64{1, -1, 2, -2, 7, -7} {
			multiple := new(big.Int).Mul(n, big.NewInt(factor))
			checkGcd(t, n, multiple)
			checkGcd(t, multiple, n)
		}
	}
}

// P2.3: numbers with a long common divisor.
func TestGcdOfMultiples(t *testing.T) {
	s := &series{1234567}
	for i := range 150 {
		common := s.number(1 + i%6)
		a, b := s.number(1+i%7), s.number(1+i/7%9)
		checkGcd(t, a.Mul(a, common), b.Mul(b, common))
		checkGcd(t, a, common)
	}
}

// P2.3: Fibonacci numbers need the most steps.
func TestGcdOfFibonacciNumbers(t *testing.T) {
	a, b := big.NewInt(0), big.NewInt(1)
	for i := range 3000 {
		if i%100 == 50 {
			checkGcd(t, b, a)
			checkGcd(t, neg(a), b)
			checkGcd(t, a, neg(b))
			checkGcd(t, neg(b), neg(a))
		}
		a, b = b, new(big.Int).Add(a, b)
	}
}

// The chapter's table of examples.
func TestExamples(t *testing.T) {
	for _, x := range []struct{ a, b, q, r int64 }{{-7, 2, -4, 1}, {7, -2, -3, 1}, {-7, -2, 4, 1}} {
		if q, r, ok := ints.Div(ints.Of(x.a), ints.Of(x.b)); q != ints.Of(x.q) || r != ints.Of(x.r) || !ok {
			t.Errorf("Div(%d, %d): %s, %s, %t", x.a, x.b, ints.Text(q), ints.Text(r), ok)
		}
	}
	if q, r, ok := ints.Div(ints.Of(7), ints.Of(0)); q != (ints.Int{}) || r != (ints.Int{}) || ok {
		t.Error("Div(7, 0)")
	}
	for _, x := range []struct{ a, b, g, x, y int64 }{{12, 18, 6, -1, 1}, {-5, 0, 5, -1, 0}, {0, 0, 0, 0, 0}} {
		g, u, v := ints.Gcd(ints.Of(x.a), ints.Of(x.b))
		if g != ints.Of(x.g) || u != ints.Of(x.x) || v != ints.Of(x.y) {
			t.Errorf("Gcd(%d, %d): %s, %s, %s", x.a, x.b, ints.Text(g), ints.Text(u), ints.Text(v))
		}
	}
	least := ints.Of(math.MinInt64)
	if ints.Text(ints.Mul(least, least)) != "85070591730234615865843651857942052864" {
		t.Error("Mul")
	}
}
