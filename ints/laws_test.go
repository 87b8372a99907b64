package ints_test

import (
	"slices"
	"testing"

	"gusset/api"
	"gusset/ints"
)

// samples returns numbers of different lengths and both signs, 0, 1 and -1 among them, in ascending order.
func samples() []ints.Int {
	s := &series{42}
	list := []ints.Int{ints.Of(0), ints.Of(1), ints.Of(-1), ints.Of(6), ints.Of(-9), ints.Of(-1 << 63), integer(power(64, 0)), integer(neg(power(128, -1)))}
	for i := range 12 {
		list = append(list, integer(s.number(1+i%5)))
	}
	slices.SortFunc(list, ints.Cmp)
	return list
}

// P2.5: the integers form a commutative ring.
func TestRingLaws(t *testing.T) {
	zero, one := ints.Of(0), ints.Of(1)
	for _, a := range samples() {
		if ints.Add(a, zero) != a || ints.Mul(a, one) != a || ints.Add(a, ints.Neg(a)) != zero {
			t.Fatalf("0, 1 or the negative of %s is none", ints.Text(a))
		}
		for _, b := range samples() {
			if ints.Add(a, b) != ints.Add(b, a) || ints.Mul(a, b) != ints.Mul(b, a) {
				t.Fatalf("%s and %s do not commute", ints.Text(a), ints.Text(b))
			}
			if ints.Sub(a, b) != ints.Add(a, ints.Neg(b)) {
				t.Fatalf("%s - %s is not a sum", ints.Text(a), ints.Text(b))
			}
			for _, c := range samples() {
				if ints.Add(ints.Add(a, b), c) != ints.Add(a, ints.Add(b, c)) {
					t.Fatal("addition is not associative")
				}
				if ints.Mul(ints.Mul(a, b), c) != ints.Mul(a, ints.Mul(b, c)) {
					t.Fatal("multiplication is not associative")
				}
				if ints.Mul(a, ints.Add(b, c)) != ints.Add(ints.Mul(a, b), ints.Mul(a, c)) {
					t.Fatal("multiplication does not distribute")
				}
			}
		}
	}
}

// isDivision reports whether a = q b + r and 0 ≤ r < |b|.
func isDivision(a, b, q, r ints.Int) bool {
	size := ints.From(false, ints.Abs(b))
	return ints.Add(ints.Mul(q, b), r) == a && ints.Sign(r) >= 0 && ints.Cmp(r, size) < 0
}

// P2.5: for b ≠ 0 there is exactly one pair q, r with a = q b + r and 0 ≤ r < |b|.
func TestOneDivision(t *testing.T) {
	for _, a := range samples() {
		for _, b := range samples() {
			if b == ints.Of(0) {
				continue
			}
			q, r, ok := ints.Div(a, b)
			if !ok || !isDivision(a, b, q, r) {
				t.Fatalf("%s = %s %s + %s", ints.Text(a), ints.Text(q), ints.Text(b), ints.Text(r))
			}
			for _, step := range []int64{-2, -1, 1, 2} {
				other := ints.Add(q, ints.Of(step))
				if isDivision(a, b, other, ints.Sub(a, ints.Mul(other, b))) {
					t.Fatalf("%s has a second quotient by %s", ints.Text(a), ints.Text(b))
				}
			}
		}
	}
}

// P2.5: Parse(Text(a)) returns a.
func TestTextLaw(t *testing.T) {
	for _, a := range samples() {
		if b, e := ints.Parse(ints.Text(a)); b != a || e != api.OK {
			t.Fatalf("%s comes back as %s, error %d", ints.Text(a), ints.Text(b), e)
		}
	}
}

// P2.1: Cmp orders the numbers as their differences do.
func TestOrder(t *testing.T) {
	for i, a := range samples() {
		for j, b := range samples() {
			order := ints.Cmp(a, b)
			if order != ints.Sign(ints.Sub(a, b)) || order != -ints.Cmp(b, a) || (order == 0) != (i == j) {
				t.Fatalf("Cmp(%s, %s): %d", ints.Text(a), ints.Text(b), order)
			}
		}
	}
}

// R1 and P1: no call changes its operands, and the same call gives the same result again.
func TestOperandsStay(t *testing.T) {
	list := samples()
	var texts []string
	for _, a := range list {
		texts = append(texts, ints.Text(a))
	}
	first := everything(list)
	for i, a := range list {
		if ints.Text(a) != texts[i] {
			t.Fatalf("%s has become %s", texts[i], ints.Text(a))
		}
	}
	if second := everything(list); !slices.Equal(first, second) {
		t.Error("a second run gives other results")
	}
	if !slices.Equal(list, samples()) {
		t.Error("the operands are not what they were")
	}
}

// everything returns the results of all operations on all pairs of list.
func everything(list []ints.Int) []ints.Int {
	var out []ints.Int
	for _, a := range list {
		word, _ := a.I64()
		parsed, _ := ints.Parse(ints.Text(a) + "1")
		out = append(out, ints.Of(word), parsed, ints.Neg(a), ints.From(ints.Sign(a) > 0, ints.Abs(a)))
		for _, b := range list {
			q, r, _ := ints.Div(a, b)
			g, x, y := ints.Gcd(a, b)
			out = append(out, ints.Add(a, b), ints.Sub(a, b), ints.Mul(a, b), q, r, g, x, y)
		}
	}
	return out
}
