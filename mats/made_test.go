package mats_test

import (
	"errors"
	"math"
	"math/big"
	"slices"
	"testing"

	"gusset/api"
	"gusset/fracs"
	"gusset/mats"
	"gusset/vecs"
)

// P13.1: Of takes integers of any size, row by row.
func TestOf(t *testing.T) {
	l := []int64{1, -2, 0, math.MaxInt64, math.MinInt64, 7, 5, 5, -1, 12, 0, 3}
	for _, s := range [][2]int{{1, 12}, {2, 6}, {3, 4}, {4, 3}, {6, 2}, {12, 1}} {
		m, e := mats.Of(s[0], s[1], l...)
		want(t, "Of", m, e, fill(s[0], s[1], func(i, k int) *big.Rat { return new(big.Rat).SetInt64(l[i*s[1]+k]) }))
	}
	for _, s := range [][2]int{{0, 0}, {0, 1}, {1, 0}, {0, 2048}, {2048, 0}} {
		m, e := mats.Of(s[0], s[1])
		want(t, "Of nothing", m, e, tableOf(blank(s[0], s[1])))
		m, e = mats.Of(s[0], s[1], []int64{}...)
		want(t, "Of an empty list", m, e, tableOf(blank(s[0], s[1])))
	}
	ones := slices.Repeat([]int64{1}, 2048)
	m, e := mats.Of(2048, 1, ones...)
	want(t, "Of 2048 rows", m, e, fill(2048, 1, func(int, int) *big.Rat { return rat("1") }))
	m, e = mats.Of(1, 2048, ones...)
	want(t, "Of 2048 columns", m, e, fill(1, 2048, func(int, int) *big.Rat { return rat("1") }))
}

// P13.1: Of returns the error that Check returns for the matrix.
func TestOfFaults(t *testing.T) {
	for _, x := range invalids() {
		m, e := mats.Of(x.m.R, x.m.C, make([]int64, len(x.m.A))...)
		wantFault(t, "Of", m, e, x.fault)
	}
}

// P13.1: Make calls f once for every element, row by row.
func TestMake(t *testing.T) {
	for _, s := range append(sizes(), [2]int{2048, 0}, [2]int{0, 2048}, [2]int{2048, 1}, [2]int{1, 2048}) {
		var calls, due [][2]int
		for i := range s[0] {
			for k := range s[1] {
				due = append(due, [2]int{i, k})
			}
		}
		m, e := mats.Make(s[0], s[1], func(i, k int) fracs.Frac {
			calls = append(calls, [2]int{i, k})
			return fracs.Int(int64(100*i - k + len(calls)))
		})
		want(t, "Make", m, e, fill(s[0], s[1], func(i, k int) *big.Rat { return big.NewRat(int64(100*i-k+i*s[1]+k+1), 1) }))
		if !slices.Equal(calls, due) {
			t.Errorf("Make of %d by %d called f for %v", s[0], s[1], calls)
		}
	}
}

// P13.1: without an f all elements are 0.
func TestMakeNil(t *testing.T) {
	for _, s := range append(sizes(), [2]int{2048, 3}, [2]int{3, 2048}) {
		m, e := mats.Make(s[0], s[1], nil)
		want(t, "Make with nil", m, e, tableOf(blank(s[0], s[1])))
	}
}

// P13.1: Make does not call f if r or c is out of range.
func TestMakeFaults(t *testing.T) {
	for _, x := range []struct {
		r, c  int
		fault api.Errno
	}{
		{-1, 0, api.ErrArg}, {0, -1, api.ErrArg}, {-1, -1, api.ErrArg}, {-1, 2049, api.ErrArg}, {2049, -1, api.ErrArg}, {math.MinInt, math.MaxInt, api.ErrArg}, {math.MaxInt, math.MinInt, api.ErrArg},
		{2049, 0, api.ErrLimit}, {0, 2049, api.ErrLimit}, {2049, 1, api.ErrLimit}, {1, 2049, api.ErrLimit}, {2049, 2049, api.ErrLimit}, {1 << 32, 1 << 32, api.ErrLimit}, {math.MaxInt, math.MaxInt, api.ErrLimit},
	} {
		calls := 0
		m, e := mats.Make(x.r, x.c, func(i, k int) fracs.Frac { calls++; return fracs.Int(1) })
		wantFault(t, "Make", m, e, x.fault)
		m, e = mats.Make(x.r, x.c, nil)
		wantFault(t, "Make with nil", m, e, x.fault)
		if calls != 0 {
			t.Errorf("Make of %d by %d called f %d times", x.r, x.c, calls)
		}
	}
}

// P1: Make does not panic, even if f does; and it does not call f again.
func TestMakePanics(t *testing.T) {
	for _, cause := range []any{"text", errors.New("error"), 0, nil} {
		for last := range 6 {
			calls := 0
			m, e := mats.Make(2, 3, func(i, k int) fracs.Frac {
				if calls++; i*3+k == last {
					panic(cause)
				}
				return fracs.Int(1)
			})
			wantFault(t, "Make", m, e, api.ErrArg)
			if calls != last+1 {
				t.Errorf("f was called %d times, and panicked at %d", calls, last)
			}
		}
	}
	m, e := mats.Make(1, 2, func(i, k int) fracs.Frac { return numbers()[:0][i] })
	wantFault(t, "Make with an index out of range", m, e, api.ErrArg)
	m, e = mats.Make(0, 3, func(i, k int) fracs.Frac { panic("called") })
	want(t, "Make without elements", m, e, table{c: 3})
}

// P13.1: identity matrices of all sizes up to the greatest, and no others.
func TestOne(t *testing.T) {
	for _, n := range []int{0, 1, 2, 3, 10, 77} {
		m, e := mats.One(n)
		want(t, "One", m, e, fill(n, n, func(i, k int) *big.Rat {
			if i == k {
				return rat("1")
			}
			return new(big.Rat)
		}))
	}
	m, e := mats.One(2048)
	wantDiagonal(t, "One(2048)", m, e, slices.Repeat(vec("1"), 2048))
	for _, n := range []int{-1, -2, -2049, math.MinInt} {
		m, e := mats.One(n)
		wantFault(t, "One", m, e, api.ErrArg)
	}
	for _, n := range []int{2049, 2050, 1 << 32, math.MaxInt} {
		m, e := mats.One(n)
		wantFault(t, "One", m, e, api.ErrLimit)
	}
}

// wantDiagonal fails unless m has v on its diagonal and zeros elsewhere, and e is OK.
func wantDiagonal(t *testing.T, what string, m mats.Mat, e api.Errno, v vecs.Vec) {
	t.Helper()
	n := len(v)
	if e != api.OK || m.R != n || m.C != n || len(m.A) != n*n || cap(m.A) != n*n {
		t.Fatalf("%s: error %d, %d by %d with %d elements", what, e, m.R, m.C, len(m.A))
	}
	for i, x := range m.A {
		if on := i%(n+1) == 0; on && x != v[i/(n+1)] || !on && x != (fracs.Frac{}) {
			t.Fatalf("%s: %s at %d, %d", what, fracs.Text(x), i/n, i%n)
		}
	}
}

// P13.1: Diag of vectors of all lengths up to the greatest, and no others.
func TestDiag(t *testing.T) {
	for n := range 9 {
		for _, v := range vectors(n) {
			m, e := mats.Diag(v)
			wantDiagonal(t, "Diag", m, e, v)
		}
	}
	m, e := mats.Diag(numbers())
	wantDiagonal(t, "Diag", m, e, numbers())
	m, e = mats.Diag(nil)
	want(t, "Diag of nothing", m, e, table{})
	v := long(2048)
	v[2047] = read("-3/7")
	m, e = mats.Diag(v)
	wantDiagonal(t, "Diag of 2048 elements", m, e, v)
	for _, n := range []int{2049, 2050, 5000} {
		m, e = mats.Diag(long(n))
		wantFault(t, "Diag", m, e, api.ErrLimit)
	}
}
