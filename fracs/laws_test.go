package fracs_test

import (
	"slices"
	"testing"

	"gusset/api"
	"gusset/fracs"
	"gusset/ints"
)

// samples returns fractions of different lengths and both signs, 0, 1 and -1 among them, in ascending order.
func samples() []fracs.Frac {
	var list []fracs.Frac
	for _, s := range []string{"0", "1", "-1", "1/2", "-1/3", "5/6", "-7/12", "6", "1/18446744073709551616", "-340282366920938463463374607431768211455/2"} {
		list = append(list, frac(rat(s)))
	}
	s := &series{42}
	for i := range 6 {
		list = append(list, frac(s.fraction(1+i%3)))
	}
	slices.SortFunc(list, fracs.Cmp)
	return list
}

// quotient returns a / b, where b is not 0.
func quotient(t *testing.T, a, b fracs.Frac) fracs.Frac {
	t.Helper()
	q, e := fracs.Div(a, b)
	if e != api.OK {
		t.Fatalf("%s / %s: error %d", fracs.Text(a), fracs.Text(b), e)
	}
	return q
}

// P3.6: addition and multiplication are commutative, associative and distributive.
func TestRingLaws(t *testing.T) {
	for _, a := range samples() {
		for _, b := range samples() {
			if fracs.Add(a, b) != fracs.Add(b, a) || fracs.Mul(a, b) != fracs.Mul(b, a) {
				t.Fatalf("%s and %s do not commute", fracs.Text(a), fracs.Text(b))
			}
			for _, c := range samples() {
				if fracs.Add(fracs.Add(a, b), c) != fracs.Add(a, fracs.Add(b, c)) || fracs.Sum(a, b, c) != fracs.Add(a, fracs.Add(b, c)) {
					t.Fatal("addition is not associative")
				}
				if fracs.Mul(fracs.Mul(a, b), c) != fracs.Mul(a, fracs.Mul(b, c)) {
					t.Fatal("multiplication is not associative")
				}
				if fracs.Mul(a, fracs.Add(b, c)) != fracs.Add(fracs.Mul(a, b), fracs.Mul(a, c)) {
					t.Fatal("multiplication does not distribute")
				}
			}
		}
	}
}

// P3.6: subtraction reverses addition, and division by a nonzero number reverses multiplication.
func TestInverseLaws(t *testing.T) {
	zero, one := fracs.Int(0), fracs.Int(1)
	for _, a := range samples() {
		if fracs.Add(a, zero) != a || fracs.Mul(a, one) != a || fracs.Mul(a, zero) != zero || fracs.Add(a, fracs.Neg(a)) != zero {
			t.Fatalf("0, 1 or the negative of %s is none", fracs.Text(a))
		}
		for _, b := range samples() {
			if fracs.Sub(fracs.Add(a, b), b) != a || fracs.Sub(a, b) != fracs.Add(a, fracs.Neg(b)) {
				t.Fatalf("subtraction of %s does not reverse addition", fracs.Text(b))
			}
			if b == zero {
				continue
			}
			if quotient(t, fracs.Mul(a, b), b) != a || fracs.Mul(quotient(t, a, b), b) != a {
				t.Fatalf("division by %s does not reverse multiplication", fracs.Text(b))
			}
			if quotient(t, a, b) != fracs.Mul(a, quotient(t, one, b)) {
				t.Fatalf("division by %s is not multiplication with its inverse", fracs.Text(b))
			}
		}
	}
}

// P3.6: squares are never negative, and powers are products.
func TestPowerLaws(t *testing.T) {
	for _, a := range samples() {
		square := fracs.Square(a)
		if fracs.Sign(square) < 0 || (square == fracs.Int(0)) != (a == fracs.Int(0)) || square != fracs.Mul(a, a) {
			t.Fatalf("the square of %s is %s", fracs.Text(a), fracs.Text(square))
		}
		product := fracs.Int(1)
		for n := range 8 {
			p, e := fracs.Pow(a, n)
			if p != product || e != api.OK {
				t.Fatalf("%s to the power %d is %s, error %d", fracs.Text(a), n, fracs.Text(p), e)
			}
			if a != fracs.Int(0) {
				inverse, e := fracs.Pow(a, -n)
				if fracs.Mul(inverse, product) != fracs.Int(1) || e != api.OK {
					t.Fatalf("%s to the power -%d is %s, error %d", fracs.Text(a), n, fracs.Text(inverse), e)
				}
			}
			product = fracs.Mul(product, a)
		}
	}
}

// P3.6: the order is total, and is preserved by adding the same number, and by multiplying by a positive one.
func TestOrderLaws(t *testing.T) {
	for i, a := range samples() {
		for j, b := range samples() {
			order := fracs.Cmp(a, b)
			if order != fracs.Sign(fracs.Sub(a, b)) || order != -fracs.Cmp(b, a) || (order < 0) != (i < j) || (order == 0) != (a == b) {
				t.Fatalf("Cmp(%s, %s): %d", fracs.Text(a), fracs.Text(b), order)
			}
			for _, c := range samples() {
				if fracs.Cmp(fracs.Add(a, c), fracs.Add(b, c)) != order {
					t.Fatal("addition does not preserve the order")
				}
				if fracs.Cmp(fracs.Mul(a, c), fracs.Mul(b, c)) != order*fracs.Sign(c) {
					t.Fatal("multiplication does not preserve the order")
				}
			}
		}
	}
}

// P3.6: the parts of a number are in lowest terms, Parse(Text(a)) returns a, and Floor and Ceil enclose it.
func TestPartLaws(t *testing.T) {
	one := fracs.Int(1)
	for _, a := range samples() {
		if b, e := fracs.From(fracs.Num(a), fracs.Den(a)); b != a || e != api.OK {
			t.Fatalf("%s comes back from its parts as %s, error %d", fracs.Text(a), fracs.Text(b), e)
		}
		if b, e := fracs.Parse(fracs.Text(a)); b != a || e != api.OK {
			t.Fatalf("%s comes back as %s, error %d", fracs.Text(a), fracs.Text(b), e)
		}
		low, high := whole(fracs.Floor(a)), whole(fracs.Ceil(a))
		if fracs.Cmp(low, a) > 0 || fracs.Cmp(a, fracs.Add(low, one)) >= 0 || fracs.Cmp(high, a) < 0 || fracs.Cmp(a, fracs.Sub(high, one)) <= 0 {
			t.Fatalf("%s lies between %s and %s", fracs.Text(a), fracs.Text(low), fracs.Text(high))
		}
		if fracs.Whole(a) != (low == high) {
			t.Fatalf("Whole(%s): %t", fracs.Text(a), fracs.Whole(a))
		}
	}
}

// whole returns n as a fraction.
func whole(n ints.Int) fracs.Frac {
	a, _ := fracs.Parse(ints.Text(n))
	return a
}

// R1 and P1: no call changes its operands, also not a slice whose elements it takes, and the same call gives
// the same result again.
func TestOperandsStay(t *testing.T) {
	list := samples()
	var texts []string
	for _, a := range list {
		texts = append(texts, fracs.Text(a))
	}
	first := everything(list)
	for i, a := range list {
		if fracs.Text(a) != texts[i] {
			t.Fatalf("%s has become %s", texts[i], fracs.Text(a))
		}
	}
	if second := everything(list); !slices.Equal(first, second) {
		t.Error("a second run gives other results")
	}
	if !slices.Equal(list, samples()) {
		t.Error("the operands are not what they were")
	}
}

// everything returns the results of all operations on all pairs of list.
func everything(list []fracs.Frac) []fracs.Frac {
	out := []fracs.Frac{fracs.Sum(list...), fracs.Max(list...), fracs.Min(list...)}
	for i, a := range list {
		cube, _ := fracs.Pow(a, 3)
		inverse, _ := fracs.Pow(a, -1)
		parsed, _ := fracs.Parse(fracs.Text(a))
		built, _ := fracs.From(fracs.Num(a), fracs.Den(a))
		out = append(out, cube, inverse, parsed, built, fracs.Neg(a), fracs.Abs(a), fracs.Square(a), whole(fracs.Floor(a)), whole(fracs.Ceil(a)))
		out = append(out, fracs.Sum(list[i:]...), fracs.Max(list[:i]...), fracs.Min(list[i:]...))
		for _, b := range list {
			q, _ := fracs.Div(a, b)
			out = append(out, fracs.Add(a, b), fracs.Sub(a, b), fracs.Mul(a, b), q, fracs.Int(int64(fracs.Cmp(a, b))))
		}
	}
	return out
}
