package fracs

import (
	"gusset/api"
	"gusset/ints"
	"gusset/nats"
)

// Mul returns a * b.
func Mul(a, b Frac) Frac {
	// What cancels in the product is what each numerator has in common with the other's denominator.
	m, q := cancel(a.num, Den(b))
	n, p := cancel(b.num, Den(a))
	return lowest(ints.Mul(m, n), nats.Mul(p, q))
}

// Div returns a / b.
func Div(a, b Frac) (Frac, api.Errno) {
	if b == Int(0) {
		return Frac{}, api.ErrZero
	}
	return Mul(a, inverse(b)), api.OK
}

// Square returns a * a.
func Square(a Frac) Frac {
	// Powers of two numbers without a common divisor have none either.
	return lowest(ints.Mul(a.num, a.num), nats.Mul(Den(a), Den(a)))
}

// Pow returns a to the power n.
func Pow(a Frac, n int) (Frac, api.Errno) {
	if n < -api.MaxDigits || n > api.MaxDigits {
		return Frac{}, api.ErrArg
	}
	if n >= 0 {
		return power(a, n)
	}
	if a == Int(0) {
		return Frac{}, api.ErrZero
	}
	return power(inverse(a), -n)
}

// power returns a to the power n, which is at least 0 and at most MaxDigits.
func power(a Frac, n int) (Frac, api.Errno) {
	num, e := nats.Pow(ints.Abs(a.num), n)
	if e != api.OK {
		return Frac{}, e
	}
	den, e := nats.Pow(Den(a), n)
	if e != api.OK {
		return Frac{}, e
	}
	return lowest(ints.From(Sign(a) < 0 && n%2 == 1, num), den), api.OK
}

// inverse returns 1/a. a is not 0.
func inverse(a Frac) Frac {
	return lowest(ints.From(Sign(a) < 0, Den(a)), ints.Abs(a.num))
}
