package elims

import (
	"gusset/api"
	"gusset/fracs"
	"gusset/mats"
)

// Inverse returns the inverse.
func Inverse(a mats.Mat) (mats.Mat, api.Errno) {
	if e := faultOfSquare(a); e != api.OK {
		return mats.Mat{}, e
	}
	// With the identity behind a, the steps that turn a into the identity turn that one into the inverse.
	g := gridOf(a, a.R)
	for i, row := range g.rows {
		row[a.C+i] = fracs.Int(1)
	}
	g.descend(a.C)
	if len(g.pivots) < a.R {
		return mats.Mat{}, api.ErrSingular
	}
	g.ascend()
	return g.part(a.C, a.R), api.OK
}

// Det returns the determinant.
func Det(a mats.Mat) (fracs.Frac, api.Errno) {
	if e := faultOfSquare(a); e != api.OK {
		return fracs.Frac{}, e
	}
	return det(a), api.OK
}

// Minor returns the determinant of the first n rows and columns.
func Minor(a mats.Mat, n int) (fracs.Frac, api.Errno) {
	if e := mats.Check(a); e != api.OK {
		return fracs.Frac{}, e
	}
	if n < 0 || n > a.R || n > a.C {
		return fracs.Frac{}, api.ErrArg
	}
	first := make([]int, n)
	for i := range first {
		first[i] = i
	}
	corner, _ := mats.Part(a, first, first)
	return det(corner), api.OK
}

// faultOfSquare returns the error of a as a square matrix, or OK if it is one.
func faultOfSquare(a mats.Mat) api.Errno {
	if e := mats.Check(a); e != api.OK {
		return e
	}
	if a.R != a.C {
		return api.ErrArg
	}
	return api.OK
}

// det returns the determinant of a, which is square.
func det(a mats.Mat) fracs.Frac {
	g := gridOf(a, 0)
	g.descend(a.C)
	if len(g.pivots) < a.R {
		return fracs.Frac{}
	}
	return g.factor
}
