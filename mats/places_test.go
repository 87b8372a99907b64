package mats_test

import (
	"math"
	"math/big"
	"slices"
	"testing"

	"gusset/api"
	"gusset/fracs"
	"gusset/mats"
)

// beyond returns integers that are no index of n rows or columns.
func beyond(n int) []int {
	return []int{-1, -2, n, n + 1, -n - 1, 2048, 2049, math.MaxInt32, math.MinInt32, 1 << 32, 1 << 62, math.MaxInt, math.MinInt}
}

// P13.2: each element, row and column.
func TestPlaces(t *testing.T) {
	for _, s := range sizes() {
		for _, m := range family(s[0], s[1]) {
			a := tableOf(m)
			for i := range m.R {
				row, e := mats.Row(m, i)
				wantVec(t, "Row", row, e, a.rows[i])
				for k := range m.C {
					x, ok := mats.At(m, i, k)
					if !ok || fracs.Text(x) != a.rows[i][k].RatString() {
						t.Fatalf("At(%d, %d) of %d by %d %s: %s, %t", i, k, m.R, m.C, shown(flat(a)), fracs.Text(x), ok)
					}
				}
			}
			for k := range m.C {
				col, e := mats.Col(m, k)
				wantVec(t, "Col", col, e, turned(a).rows[k])
			}
		}
	}
	row, e := mats.Row(mats.Mat{R: 3}, 2)
	wantVec(t, "Row without elements", row, e, nil)
	col, e := mats.Col(mats.Mat{C: 3}, 2)
	wantVec(t, "Col without elements", col, e, nil)
}

// P13.2: the last places of the largest matrices.
func TestLastPlaces(t *testing.T) {
	m := blank(2048, 2048)
	for i := range 2048 {
		m.A[2047*2048+i], m.A[i*2048+2047] = fracs.Int(int64(i)), fracs.Int(int64(-i))
	}
	row, e := mats.Row(m, 2047)
	wantVec(t, "Row", row, e, rats(m.A[2047*2048:]))
	col, e := mats.Col(m, 2047)
	if e != api.OK || len(col) != 2048 || col[0] != fracs.Int(0) || col[2046] != fracs.Int(-2046) || col[2047] != fracs.Int(-2047) {
		t.Errorf("Col: error %d, %d elements", e, len(col))
	}
	if x, ok := mats.At(m, 2047, 2046); x != fracs.Int(2046) || !ok {
		t.Errorf("At: %s, %t", fracs.Text(x), ok)
	}
	part, e := mats.Part(m, []int{2047, 0}, []int{2046, 2047})
	want(t, "Part", part, e, tableOf(mat(2, 2, "2046 -2047 0 0")))
}

// P13.2: indices that are out of range.
func TestPlacesBeyond(t *testing.T) {
	for _, s := range sizes() {
		m := family(s[0], s[1])[1]
		for _, i := range beyond(m.R) {
			row, e := mats.Row(m, i)
			wantVecFault(t, "Row", row, e, api.ErrArg)
			for _, k := range append(beyond(m.C), 0, m.C-1) {
				wantNone(t, m, i, k)
			}
		}
		for _, k := range beyond(m.C) {
			col, e := mats.Col(m, k)
			wantVecFault(t, "Col", col, e, api.ErrArg)
			for i := range m.R {
				wantNone(t, m, i, k)
			}
		}
	}
}

// wantNone fails if m has an element (i, k).
func wantNone(t *testing.T, m mats.Mat, i, k int) {
	t.Helper()
	if x, ok := mats.At(m, i, k); ok || x != fracs.Int(0) {
		t.Fatalf("At(%d, %d) of %d by %d with %d elements: %s, %t", i, k, m.R, m.C, len(m.A), fracs.Text(x), ok)
	}
}

// P13.2 and P13.4: an invalid matrix has no places, and its error comes first.
func TestPlacesOfInvalid(t *testing.T) {
	for _, x := range invalids() {
		for i := range x.m.A {
			x.m.A[i] = fracs.Int(1)
		}
		for _, i := range []int{0, 1, -1, 5000} {
			row, e := mats.Row(x.m, i)
			wantVecFault(t, "Row", row, e, x.fault)
			col, e := mats.Col(x.m, i)
			wantVecFault(t, "Col", col, e, x.fault)
			wantNone(t, x.m, i, i)
			wantNone(t, x.m, 0, i)
			for _, l := range [][]int{nil, {0}, {i}, make([]int, 2049)} {
				part, e := mats.Part(x.m, l, []int{i})
				wantFault(t, "Part", part, e, x.fault)
				part, e = mats.Part(x.m, nil, l)
				wantFault(t, "Part", part, e, x.fault)
			}
		}
	}
}

// P13.4: Part takes rows and columns in any order, more than once or not at all.
func TestPart(t *testing.T) {
	m := mat(3, 4, "1 2 3 4 5 6 7/2 8 9 -10 11 18446744073709551617/3")
	a := tableOf(m)
	rows := [][]int{nil, {}, {0}, {2}, {0, 1, 2}, {2, 1, 0}, {1, 1}, {2, 0, 2, 1, 0, 2}}
	cols := [][]int{nil, {}, {0}, {3}, {0, 1, 2, 3}, {3, 2, 1, 0}, {2, 2, 2}, {1, 3, 0, 3, 2}}
	for _, r := range rows {
		for _, c := range cols {
			part, e := mats.Part(m, r, c)
			want(t, "Part", part, e, fill(len(r), len(c), func(i, k int) *big.Rat { return a.rows[r[i]][c[k]] }))
		}
	}
	for _, m := range []mats.Mat{{}, {R: 3}, {C: 3}} {
		part, e := mats.Part(m, nil, nil)
		want(t, "Part of nothing", part, e, table{})
	}
	part, e := mats.Part(mats.Mat{R: 3}, []int{2, 2}, nil)
	want(t, "Part of rows without elements", part, e, tableOf(blank(2, 0)))
	part, e = mats.Part(mats.Mat{C: 3}, nil, []int{2, 0})
	want(t, "Part of columns without elements", part, e, table{c: 2})
	most := make([]int, 2048)
	for i := range most {
		most[i] = i * 5 % 3
	}
	part, e = mats.Part(m, most, []int{3, 0})
	want(t, "Part of many rows", part, e, fill(2048, 2, func(i, k int) *big.Rat { return a.rows[most[i]][3-3*k] }))
	part, e = mats.Part(m, []int{1}, most)
	want(t, "Part of many columns", part, e, fill(1, 2048, func(i, k int) *big.Rat { return a.rows[1][most[k]] }))
}

// P13.4: Part with indices out of range, and with too many of them.
func TestPartFaults(t *testing.T) {
	for _, s := range sizes() {
		m := family(s[0], s[1])[1]
		for _, i := range beyond(m.R) {
			for _, cols := range [][]int{nil, beyond(m.C)} {
				part, e := mats.Part(m, append(slices.Repeat([]int{0}, min(m.R, 1)), i), cols)
				wantFault(t, "Part", part, e, api.ErrArg)
			}
		}
		for _, k := range beyond(m.C) {
			part, e := mats.Part(m, nil, append(slices.Repeat([]int{0}, min(m.C, 1)), k))
			wantFault(t, "Part", part, e, api.ErrArg)
		}
		for _, l := range [][]int{nil, {0}, {-1}, {2048}, make([]int, 2049)} {
			part, e := mats.Part(m, make([]int, 2049), l)
			wantFault(t, "Part of 2049 rows", part, e, api.ErrLimit)
			part, e = mats.Part(m, l, slices.Repeat([]int{-1}, 2049))
			wantFault(t, "Part of 2049 columns", part, e, api.ErrLimit)
		}
	}
	part, e := mats.Part(mat(2, 3, "1 2 3 4 5 6"), []int{2}, []int{2})
	wantFault(t, "Part with a column's index as a row's", part, e, api.ErrArg)
}
