package sparses

import (
	"slices"

	"gusset/api"
	"gusset/fracs"
)

// Add returns a + b.
func Add(a, b Sparse) (Sparse, api.Errno) {
	if e := fault(a, b); e != api.OK {
		return Sparse{}, e
	}
	if a.N != b.N || a.M != b.M {
		return Sparse{}, api.ErrArg
	}
	return Of(a.N, a.M, slices.Concat(Items(a), Items(b))...)
}

// Scale returns c times s.
func Scale(c fracs.Frac, s Sparse) (Sparse, api.Errno) {
	if e := Check(s); e != api.OK {
		return Sparse{}, e
	}
	rows := make([][]Entry, s.N)
	if c == (fracs.Frac{}) {
		return Sparse{N: s.N, M: s.M, Rows: rows}, api.OK
	}
	for i, row := range s.Rows {
		rows[i] = make([]Entry, len(row))
		for k, x := range row {
			rows[i][k] = Entry{Col: x.Col, V: fracs.Mul(c, x.V)}
		}
	}
	return Sparse{N: s.N, M: s.M, Rows: rows}, api.OK
}
