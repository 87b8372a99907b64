package bareiss

import (
	"gusset/api"
	"gusset/ints"
)

// Det returns the determinant.
func Det(m Whole) (ints.Int, api.Errno) {
	if e := faultOfSquare(m); e != api.OK {
		return ints.Int{}, e
	}
	if m.R == 0 {
		return ints.Of(1), api.OK
	}
	return minors(m, m.R-1).A[0], api.OK
}

// Cramer returns the determinants of Cramer's rule.
func Cramer(m Whole, b []ints.Int) (ints.Int, []ints.Int, api.Errno) {
	if e := faultOfSquare(m); e != api.OK {
		return ints.Int{}, nil, e
	}
	if len(b) != m.R {
		return ints.Int{}, nil, api.ErrArg
	}
	// The determinants of the columns are the adjugate times b.
	l := minors(framed(m, Whole{R: m.R, C: 1, A: b}, m.R+1), m.R).A
	det := l[m.R]
	if det == (ints.Int{}) {
		return ints.Int{}, nil, api.ErrSingular
	}
	return det, l[:m.R:m.R], api.OK
}

// Adjugate returns the adjugate.
func Adjugate(m Whole) (Whole, api.Errno) {
	if e := faultOfSquare(m); e != api.OK {
		return Whole{}, e
	}
	one := blank(m.R, m.R)
	for i := range m.R {
		one.row(i)[i] = ints.Of(1)
	}
	return minors(framed(m, one, m.R), m.R), api.OK
}

// faultOfSquare returns the error of m as a square matrix, or OK if it is one.
func faultOfSquare(m Whole) api.Errno {
	if e := Check(m); e != api.OK {
		return e
	}
	if m.R != m.C {
		return api.ErrArg
	}
	return api.OK
}

// framed returns a matrix whose stage n, where n is the number of rows and columns of m, is the product of the adjugate
// of m and of right, and below it the determinant times the identity, as far as l rows reach.
//
// A minor of m with one more column c and one more row r, and z where they meet, is z times the determinant minus the
// product of r, the adjugate and c. So right stands beside m with the opposite sign, and the unit vectors below it.
func framed(m, right Whole, l int) Whole {
	f := blank(m.R+l, m.C+right.C)
	for i := range m.R {
		row := f.row(i)
		copy(row, m.row(i))
		copy(row[m.C:], mapped(right.row(i), ints.Neg))
	}
	for i := range l {
		f.row(m.R + i)[i] = ints.Of(1)
	}
	return f
}
