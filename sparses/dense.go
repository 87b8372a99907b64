package sparses

import (
	"slices"

	"gusset/api"
	"gusset/fracs"
	"gusset/mats"
	"gusset/vecs"
)

// Dense returns the dense form of s.
func Dense(s Sparse) (mats.Mat, api.Errno) {
	if e := Check(s); e != api.OK {
		return mats.Mat{}, e
	}
	a := make([]fracs.Frac, s.N*s.M)
	for x := range entries(s) {
		a[x.Row*s.M+x.Col] = x.V
	}
	return mats.Mat{R: s.N, C: s.M, A: a}, api.OK
}

// OfDense returns the sparse form of a.
func OfDense(a mats.Mat) (Sparse, api.Errno) {
	if e := mats.Check(a); e != api.OK {
		return Sparse{}, e
	}
	rows := make([][]Entry, a.R)
	for i := range rows {
		rows[i] = nonzero(a.A[i*a.C : (i+1)*a.C])
	}
	return Sparse{N: a.R, M: a.C, Rows: rows}, api.OK
}

// At returns the entry at row i and column k.
func At(s Sparse, i, k int) (fracs.Frac, bool) {
	if Check(s) != api.OK || !index(i, s.N) || !index(k, s.M) {
		return fracs.Frac{}, false
	}
	for _, x := range s.Rows[i] {
		if x.Col == k {
			return x.V, true
		}
	}
	return fracs.Frac{}, true
}

// Diag returns the diagonal.
func Diag(s Sparse) (vecs.Vec, api.Errno) {
	if e := Check(s); e != api.OK {
		return nil, e
	}
	v := make(vecs.Vec, min(s.N, s.M))
	for x := range entries(s) {
		if x.Row == x.Col {
			v[x.Row] = x.V
		}
	}
	return v, api.OK
}

// nonzero returns the entries of a row whose elements are l.
func nonzero(l []fracs.Frac) []Entry {
	var row []Entry
	for k, v := range l {
		if v != (fracs.Frac{}) {
			row = append(row, Entry{Col: k, V: v})
		}
	}
	return slices.Clip(row)
}
