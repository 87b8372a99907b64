package mats

import (
	"gusset/api"
	"gusset/fracs"
	"gusset/vecs"
)

// Of returns a matrix of integers.
func Of(r, c int, l ...int64) (Mat, api.Errno) {
	m := Mat{R: r, C: c, A: vecs.Of(l...)}
	if e := Check(m); e != api.OK {
		return Mat{}, e
	}
	return m, api.OK
}

// Make returns the matrix whose elements f computes. If f panics, there is no such matrix: this is ErrArg.
func Make(r, c int, f func(i, k int) fracs.Frac) (m Mat, e api.Errno) {
	if wrong := size(r, c); wrong != api.OK {
		return Mat{}, wrong
	}
	if f == nil {
		f = func(i, k int) fracs.Frac { return fracs.Frac{} }
	}
	defer func() {
		if recover() != nil {
			m, e = Mat{}, api.ErrArg
		}
	}()
	return build(r, c, f), api.OK
}

// One returns the identity matrix.
func One(n int) (Mat, api.Errno) {
	return diagonal(n, func(int) fracs.Frac { return fracs.Int(1) })
}

// Diag returns a diagonal matrix.
func Diag(v vecs.Vec) (Mat, api.Errno) {
	return diagonal(len(v), func(i int) fracs.Frac { return v[i] })
}

// diagonal returns the n by n matrix that has element(i) at (i, i), and zeros elsewhere.
func diagonal(n int, element func(i int) fracs.Frac) (Mat, api.Errno) {
	return Make(n, n, func(i, k int) fracs.Frac {
		if i != k {
			return fracs.Frac{}
		}
		return element(i)
	})
}

// build returns the r by c matrix whose elements are computed by element, row by row. Its size is a valid one.
func build(r, c int, element func(i, k int) fracs.Frac) Mat {
	a := make([]fracs.Frac, r*c)
	for i := range r {
		for k := range c {
			a[i*c+k] = element(i, k)
		}
	}
	return Mat{R: r, C: c, A: a}
}
