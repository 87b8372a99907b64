package sparses

import "gusset/api"

// Turn returns the transpose.
func Turn(s Sparse) (Sparse, api.Errno) {
	if e := Check(s); e != api.OK {
		return Sparse{}, e
	}
	return turned(s), api.OK
}

// Part returns the submatrix with the given rows and columns.
func Part(s Sparse, rows, cols []int) (Sparse, api.Errno) {
	if e := Check(s); e != api.OK {
		return Sparse{}, e
	}
	if e := size(len(rows), len(cols)); e != api.OK {
		return Sparse{}, e
	}
	if !indices(rows, s.N) || !indices(cols, s.M) {
		return Sparse{}, api.ErrArg
	}
	// The columns are the rows of the transpose; turning that back sorts the entries, wherever they have come to stand.
	return turned(chosen(turned(chosen(s, rows)), cols)), api.OK
}

// indices reports whether all elements of l are indices of n rows or columns.
func indices(l []int, n int) bool {
	for _, i := range l {
		if !index(i, n) {
			return false
		}
	}
	return true
}

// chosen returns the rows of s at the given indices, in the memory of s: they are only to be read.
func chosen(s Sparse, at []int) Sparse {
	rows := make([][]Entry, len(at))
	for i, from := range at {
		rows[i] = s.Rows[from]
	}
	return Sparse{N: len(at), M: s.M, Rows: rows}
}

// turned returns the transpose of s, in new memory. The entries of a row of s may stand in any order; those of the
// transpose are sorted.
func turned(s Sparse) Sparse {
	lengths := make([]int, s.M)
	for x := range entries(s) {
		lengths[x.Col]++
	}
	rows := make([][]Entry, s.M)
	for k, n := range lengths {
		rows[k] = make([]Entry, 0, n)
	}
	for x := range entries(s) {
		rows[x.Col] = append(rows[x.Col], Entry{Col: x.Row, V: x.V})
	}
	return Sparse{N: s.M, M: s.N, Rows: rows}
}
