package mats

import (
	"gusset/api"
	"gusset/fracs"
)

// Add returns a + b.
func Add(a, b Mat) (Mat, api.Errno) { return combine(a, b, fracs.Add) }

// Sub returns a - b.
func Sub(a, b Mat) (Mat, api.Errno) { return combine(a, b, fracs.Sub) }

// Scale returns c a.
func Scale(c fracs.Frac, a Mat) (Mat, api.Errno) {
	if e := Check(a); e != api.OK {
		return Mat{}, e
	}
	return build(a.R, a.C, func(i, k int) fracs.Frac { return fracs.Mul(c, at(a, i, k)) }), api.OK
}

// Sum returns the sum of all elements.
func Sum(a Mat) fracs.Frac {
	if Check(a) != api.OK {
		return fracs.Frac{}
	}
	return fracs.Sum(a.A...)
}

// combine returns the sum or the difference of a and b, whichever by returns for two elements.
func combine(a, b Mat, by func(x, y fracs.Frac) fracs.Frac) (Mat, api.Errno) {
	if e := fault(a, b); e != api.OK {
		return Mat{}, e
	}
	if a.R != b.R || a.C != b.C {
		return Mat{}, api.ErrArg
	}
	return build(a.R, a.C, func(i, k int) fracs.Frac { return by(at(a, i, k), at(b, i, k)) }), api.OK
}
