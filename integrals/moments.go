package integrals

import (
	"gusset/api"
	"gusset/fracs"
)

// greatest is the greatest exponent for which Moment has a value.
const greatest = 4 * api.MaxDegree

// Moment returns the integral of a product of powers of barycentric coordinates over a triangle of area 1.
func Moment(i, j, k int) fracs.Frac {
	above, n := fracs.Int(2), 2
	for _, power := range [3]int{i, j, k} {
		if power < 0 || power > greatest {
			return fracs.Int(0)
		}
		above = fracs.Mul(above, factorial(power))
		n += power
	}
	return ratio(above, factorial(n))
}

// factorial returns n!.
func factorial(n int) fracs.Frac {
	product := fracs.Int(1)
	for i := range n {
		product = fracs.Mul(product, fracs.Int(int64(i)+1))
	}
	return product
}
