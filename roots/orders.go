package roots

import (
	"gusset/api"
	"gusset/fracs"
)

// Order compares the sum of the roots of a and b with the root of the sum of l.
func Order(a, b fracs.Frac, l ...fracs.Frac) (int, api.Errno) {
	sum := fracs.Sum(l...)
	if fracs.Sign(a) < 0 || fracs.Sign(b) < 0 || fracs.Sign(sum) < 0 {
		return 0, api.ErrArg
	}
	// The square of the roots' sum is a + b and twice the root of a b. So that root, twice, is compared with
	// the rest, and the square of both if the rest is not negative.
	rest := fracs.Sub(sum, fracs.Add(a, b))
	if fracs.Sign(rest) < 0 {
		return 1, api.OK
	}
	return fracs.Cmp(fracs.Mul(fracs.Int(4), fracs.Mul(a, b)), fracs.Square(rest)), api.OK
}
