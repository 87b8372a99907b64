package mats

import (
	"gusset/api"
	"gusset/fracs"
	"gusset/vecs"
)

// Mul returns the product of a and b.
func Mul(a, b Mat) (Mat, api.Errno) {
	if e := fault(a, b); e != api.OK {
		return Mat{}, e
	}
	if a.C != b.R {
		return Mat{}, api.ErrArg
	}
	columns := turned(b) // as rows, which need not be copied out for each element
	return build(a.R, b.C, func(i, k int) fracs.Frac { return dot(row(a, i), row(columns, k)) }), api.OK
}

// Apply returns the product of a and v.
func Apply(a Mat, v vecs.Vec) (vecs.Vec, api.Errno) {
	if e := faultWith(a, v); e != api.OK {
		return nil, e
	}
	if len(v) != a.C {
		return nil, api.ErrArg
	}
	return applied(a, v), api.OK
}

// Turn returns the transpose.
func Turn(a Mat) (Mat, api.Errno) {
	if e := Check(a); e != api.OK {
		return Mat{}, e
	}
	return turned(a), api.OK
}

// Form returns the dot product of v and a applied to w.
func Form(a Mat, v, w vecs.Vec) (fracs.Frac, api.Errno) {
	if e := faultWith(a, v, w); e != api.OK {
		return fracs.Frac{}, e
	}
	if len(v) != a.R || len(w) != a.C {
		return fracs.Frac{}, api.ErrArg
	}
	return dot(v, applied(a, w)), api.OK
}

// Outer returns the outer product.
func Outer(v, w vecs.Vec) (Mat, api.Errno) {
	return Make(len(v), len(w), func(i, k int) fracs.Frac { return fracs.Mul(v[i], w[k]) })
}

// faultWith returns the error of a matrix and some vectors by themselves, or OK if they have none.
func faultWith(a Mat, l ...vecs.Vec) api.Errno {
	if e := Check(a); e != api.OK {
		return e
	}
	for _, v := range l {
		if len(v) > api.MaxDim {
			return api.ErrLimit
		}
	}
	return api.OK
}

// applied returns the product of a and v, which has an element for each column of a.
func applied(a Mat, v vecs.Vec) vecs.Vec {
	return build(a.R, 1, func(i, _ int) fracs.Frac { return dot(row(a, i), v) }).A
}

// turned returns the transpose of a, which is valid.
func turned(a Mat) Mat {
	return build(a.C, a.R, func(i, k int) fracs.Frac { return at(a, k, i) })
}

// dot returns the dot product of v and w, which have the same length, at most MaxDim.
func dot(v, w vecs.Vec) fracs.Frac {
	x, _ := vecs.Dot(v, w)
	return x
}
