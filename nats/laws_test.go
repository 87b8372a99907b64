package nats_test

import (
	"slices"
	"strings"
	"testing"

	"gusset/api"
	"gusset/nats"
)

// samples returns numbers of different lengths, 0 and 1 among them, in ascending order.
func samples() []nats.Nat {
	s := &series{42}
	list := []nats.Nat{nats.Of(0), nats.Of(1), nats.Of(6), nats.Of(1<<64 - 1), nat(power(64, 0)), nat(power(128, -1))}
	for i := range 14 {
		list = append(list, nat(s.number(1+i%5)))
	}
	slices.SortFunc(list, nats.Cmp)
	return list
}

// P1.6: addition and multiplication are commutative, associative and distributive.
func TestRingLaws(t *testing.T) {
	for _, a := range samples() {
		for _, b := range samples() {
			if nats.Add(a, b) != nats.Add(b, a) || nats.Mul(a, b) != nats.Mul(b, a) {
				t.Fatalf("%s and %s do not commute", nats.Text(a), nats.Text(b))
			}
			for _, c := range samples() {
				if nats.Add(nats.Add(a, b), c) != nats.Add(a, nats.Add(b, c)) {
					t.Fatal("addition is not associative")
				}
				if nats.Mul(nats.Mul(a, b), c) != nats.Mul(a, nats.Mul(b, c)) {
					t.Fatal("multiplication is not associative")
				}
				if nats.Mul(a, nats.Add(b, c)) != nats.Add(nats.Mul(a, b), nats.Mul(a, c)) {
					t.Fatal("multiplication does not distribute")
				}
			}
		}
	}
}

// P1.6: subtraction reverses addition, division reverses multiplication, and a = q b + r with r < b.
func TestInverseLaws(t *testing.T) {
	for _, a := range samples() {
		for _, b := range samples() {
			if c, ok := nats.Sub(nats.Add(a, b), b); c != a || !ok {
				t.Fatalf("(a + b) - b is %s", nats.Text(c))
			}
			if b == nats.Of(0) {
				continue
			}
			if q, r, ok := nats.Div(nats.Mul(a, b), b); q != a || r != nats.Of(0) || !ok {
				t.Fatalf("(a b) / b is %s, remainder %s", nats.Text(q), nats.Text(r))
			}
			q, r, ok := nats.Div(a, b)
			if nats.Add(nats.Mul(q, b), r) != a || nats.Cmp(r, b) >= 0 || !ok {
				t.Fatalf("%s = q %s + r with %s, %s", nats.Text(a), nats.Text(b), nats.Text(q), nats.Text(r))
			}
		}
	}
}

// P1.6: the laws of the greatest common divisor.
func TestGcdLaws(t *testing.T) {
	for _, a := range samples() {
		for _, b := range samples() {
			g := nats.Gcd(a, b)
			if g != nats.Gcd(b, a) {
				t.Fatal("Gcd does not commute")
			}
			if _, r, ok := nats.Div(a, b); ok && nats.Gcd(b, r) != g {
				t.Fatal("Gcd(a, b) is not Gcd(b, a mod b)")
			}
			for _, k := range samples() {
				if nats.Gcd(nats.Mul(k, a), nats.Mul(k, b)) != nats.Mul(k, g) {
					t.Fatal("Gcd(k a, k b) is not k Gcd(a, b)")
				}
			}
			for n := range uint64(30) {
				if divides(nats.Of(n), a) && divides(nats.Of(n), b) && !divides(nats.Of(n), g) {
					t.Fatalf("%d divides both numbers, but not their Gcd", n)
				}
			}
		}
	}
}

// divides reports whether a is a multiple of d.
func divides(d, a nats.Nat) bool {
	_, r, ok := nats.Div(a, d)
	return ok && r == nats.Of(0) || d == a
}

// P1.6: Parse(Text(a)) returns a, and a number with a longer decimal form is greater.
func TestTextLaws(t *testing.T) {
	list := samples()
	for _, a := range list {
		if b, e := nats.Parse(nats.Text(a)); b != a || e != api.OK {
			t.Fatalf("%s comes back as %s, error %d", nats.Text(a), nats.Text(b), e)
		}
		for _, b := range list {
			if len(nats.Text(a)) > len(nats.Text(b)) && nats.Cmp(a, b) != 1 {
				t.Fatalf("%s is longer than %s, but not greater", nats.Text(a), nats.Text(b))
			}
		}
	}
}

// R1 and P1: no call changes its operands, and the same call gives the same result again.
func TestOperandsStay(t *testing.T) {
	list := samples()
	var texts []string
	for _, a := range list {
		texts = append(texts, nats.Text(a))
	}
	first := everything(list)
	for i, a := range list {
		if nats.Text(a) != texts[i] {
			t.Fatalf("%s has become %s", texts[i], nats.Text(a))
		}
	}
	if second := everything(list); !slices.Equal(first, second) {
		t.Error("a second run gives other results")
	}
	if !slices.Equal(list, samples()) {
		t.Error("the operands are not what they were")
	}
}

// everything returns the results of all operations on all pairs of list.
func everything(list []nats.Nat) []nats.Nat {
	var out []nats.Nat
	for _, a := range list {
		power, _ := nats.Pow(a, 5)
		parsed, _ := nats.Parse(strings.Repeat(nats.Text(a), 2))
		out = append(out, power, nats.Sqrt(a), parsed, nats.Of(uint64(nats.Bits(a))))
		for _, b := range list {
			difference, _ := nats.Sub(a, b)
			q, r, _ := nats.Div(a, b)
			out = append(out, nats.Add(a, b), nats.Mul(a, b), difference, q, r, nats.Gcd(a, b))
		}
	}
	return out
}
