package fracs

import "gusset/ints"

// Neg returns -a.
func Neg(a Frac) Frac { return Frac{num: ints.Neg(a.num), den: a.den} }

// Abs returns the absolute value of a.
func Abs(a Frac) Frac { return Frac{num: ints.From(false, ints.Abs(a.num)), den: a.den} }

// Sign returns the sign of a.
func Sign(a Frac) int { return ints.Sign(a.num) }

// Cmp compares two fractions.
func Cmp(a, b Frac) int {
	return ints.Cmp(times(a.num, Den(b)), times(b.num, Den(a)))
}

// Max returns the greatest of its arguments.
func Max(l ...Frac) Frac { return choice{better: greater}.among(l) }

// Min returns the least of its arguments.
func Min(l ...Frac) Frac { return choice{better: less}.among(l) }

// choice is the choice of one of several fractions: one that no other is better than.
type choice struct {
	better func(a, b Frac) bool
}

// among returns the chosen one of l, or 0 if l is empty.
func (c choice) among(l []Frac) Frac {
	var best Frac
	for i, a := range l {
		if i == 0 || c.better(a, best) {
			best = a
		}
	}
	return best
}

// greater reports whether a > b.
func greater(a, b Frac) bool { return Cmp(a, b) > 0 }

// less reports whether a < b.
func less(a, b Frac) bool { return Cmp(a, b) < 0 }
