package mats

import (
	"gusset/api"
	"gusset/fracs"
	"gusset/vecs"
)

// At returns an element.
func At(m Mat, i, k int) (fracs.Frac, bool) {
	if Check(m) != api.OK || !index(i, m.R) || !index(k, m.C) {
		return fracs.Frac{}, false
	}
	return at(m, i, k), true
}

// Row returns a row.
func Row(m Mat, i int) (vecs.Vec, api.Errno) {
	if e := Check(m); e != api.OK {
		return nil, e
	}
	if !index(i, m.R) {
		return nil, api.ErrArg
	}
	return build(1, m.C, func(_, k int) fracs.Frac { return at(m, i, k) }).A, api.OK
}

// Col returns a column.
func Col(m Mat, k int) (vecs.Vec, api.Errno) {
	if e := Check(m); e != api.OK {
		return nil, e
	}
	if !index(k, m.C) {
		return nil, api.ErrArg
	}
	return build(m.R, 1, func(i, _ int) fracs.Frac { return at(m, i, k) }).A, api.OK
}

// Part returns a submatrix.
func Part(a Mat, rows, cols []int) (Mat, api.Errno) {
	if e := Check(a); e != api.OK {
		return Mat{}, e
	}
	if e := size(len(rows), len(cols)); e != api.OK {
		return Mat{}, e
	}
	if !indices(rows, a.R) || !indices(cols, a.C) {
		return Mat{}, api.ErrArg
	}
	return build(len(rows), len(cols), func(i, k int) fracs.Frac { return at(a, rows[i], cols[k]) }), api.OK
}

// index reports whether i is an index of n rows or columns.
func index(i, n int) bool { return 0 <= i && i < n }

// indices reports whether all elements of l are indices of n rows or columns.
func indices(l []int, n int) bool {
	for _, i := range l {
		if !index(i, n) {
			return false
		}
	}
	return true
}

// at returns the element (i, k) of m, which has one.
func at(m Mat, i, k int) fracs.Frac { return m.A[i*m.C+k] }

// row returns the row i of m, which has one, in the memory of m: it is only to be read.
func row(m Mat, i int) vecs.Vec {
	from, to := i*m.C, (i+1)*m.C
	return m.A[from:to:to]
}
