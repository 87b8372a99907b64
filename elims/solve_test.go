package elims_test

import (
	"math/big"
	"testing"

	"gusset/api"
	"gusset/elims"
	"gusset/fracs"
	"gusset/mats"
	"gusset/vecs"
)

// beside returns a with the column b behind it.
func beside(a table, b vecs.Vec) table {
	l := rats(b)
	return fill(len(a.rows), a.c+1, func(i, k int) *big.Rat {
		if k == a.c {
			return l[i]
		}
		return a.rows[i][k]
	})
}

// wantSolved fails unless s is what P14.3 says of a x = b.
func wantSolved(t *testing.T, a mats.Mat, b vecs.Vec, s elims.Solution, e api.Errno) {
	t.Helper()
	if e != api.OK || len(s.X) != a.C || cap(s.X) != a.C || !same(product(tableOf(a), columnOf(s.X)), columnOf(b)) {
		t.Fatalf("%s x = %s: %s with the capacity %d, error %d", mats.Text(a), vecs.Text(b), vecs.Text(s.X), cap(s.X), e)
	}
	wantKernel(t, a, s.Kernel, e)
	_, pivots, _ := elims.Reduce(a)
	free := map[int]bool{}
	for k := range a.C {
		free[k] = true
	}
	for _, k := range pivots {
		delete(free, k)
	}
	for k := range free {
		if s.X[k] != (fracs.Frac{}) {
			t.Fatalf("%s x = %s: %s has no 0 at %d", mats.Text(a), vecs.Text(b), vecs.Text(s.X), k)
		}
	}
}

// wantUnsolved fails unless s and y are what P14.3 and P14.4 say of a x = b, which has no solution.
func wantUnsolved(t *testing.T, a mats.Mat, b vecs.Vec, s elims.Solution, e api.Errno) {
	t.Helper()
	if e != api.ErrSingular || len(s.X) != 0 || len(s.Kernel) != 0 {
		t.Fatalf("%s x = %s: %v, error %d", mats.Text(a), vecs.Text(b), s, e)
	}
	y, e := elims.Against(a, b)
	if e != api.OK || len(y) != a.R || cap(y) != a.R {
		t.Fatalf("against %s x = %s: %s with the capacity %d, error %d", mats.Text(a), vecs.Text(b), vecs.Text(y), cap(y), e)
	}
	row := turned(columnOf(y))
	if !isZero(product(row, tableOf(a))) || !same(product(row, columnOf(b)), one(1)) {
		t.Fatalf("against %s x = %s: %s", mats.Text(a), vecs.Text(b), vecs.Text(y))
	}
}

// P14.3, P14.4 and P14.7: a system has a solution if its right-hand side does not make the rank greater; if not, it has a
// certificate against it, and never both.
func TestSolve(t *testing.T) {
	for _, a := range many() {
		for _, b := range vectors(a.R) {
			s, e := elims.Solve(a, b)
			if rank(beside(tableOf(a), b)) > rank(tableOf(a)) {
				wantUnsolved(t, a, b, s, e)
				continue
			}
			wantSolved(t, a, b, s, e)
			if y, e := elims.Against(a, b); e != api.ErrSingular || len(y) != 0 {
				t.Fatalf("against %s x = %s: %s, error %d", mats.Text(a), vecs.Text(b), vecs.Text(y), e)
			}
		}
	}
}

// P14.3: right-hand sides that are products with the matrix always have solutions.
func TestSolveProducts(t *testing.T) {
	s := &series{1447}
	list := append(many(), s.low(12, 15, 9), s.low(15, 12, 9), s.matrix(20, 20), s.matrix(2, 70))
	for _, a := range list {
		for _, x := range vectors(a.C)[1:] {
			b := good[vecs.Vec](t)(mats.Apply(a, x))
			got, e := elims.Solve(a, b)
			wantSolved(t, a, b, got, e)
			if y, e := elims.Against(a, b); e != api.ErrSingular || len(y) != 0 {
				t.Fatalf("against %s x = %s: %s, error %d", mats.Text(a), vecs.Text(b), vecs.Text(y), e)
			}
		}
	}
}

// P14.4 for larger systems: right-hand sides that are orthogonal to the columns are no products with the matrix.
func TestAgainstLarge(t *testing.T) {
	s := &series{1451}
	for _, a := range []mats.Mat{s.low(12, 15, 9), s.low(15, 12, 9), s.matrix(30, 4), s.low(6, 60, 5)} {
		for _, b := range good[[]vecs.Vec](t)(elims.Kernel(matOf(turned(tableOf(a))))) {
			got, e := elims.Solve(a, b)
			wantUnsolved(t, a, b, got, e)
		}
	}
}

// Systems without rows or without columns.
func TestSolveEmpty(t *testing.T) {
	if s, e := elims.Solve(mats.Mat{}, nil); e != api.OK || len(s.X) != 0 || len(s.Kernel) != 0 {
		t.Errorf("no rows and columns: %v, error %d", s, e)
	}
	if y, e := elims.Against(mats.Mat{}, vecs.Vec{}); e != api.ErrSingular || len(y) != 0 {
		t.Errorf("against no rows and columns: %v, error %d", y, e)
	}
	if s, e := elims.Solve(blank(0, 2), nil); e != api.OK || vecs.Text(s.X) != "[0 0]" || len(s.Kernel) != 2 || vecs.Text(s.Kernel[0]) != "[1 0]" || vecs.Text(s.Kernel[1]) != "[0 1]" {
		t.Errorf("no rows: %v, error %d", s, e)
	}
	if y, e := elims.Against(blank(0, 2), nil); e != api.ErrSingular || len(y) != 0 {
		t.Errorf("against no rows: %v, error %d", y, e)
	}
	if s, e := elims.Solve(blank(2, 0), vec("0 0")); e != api.OK || len(s.X) != 0 || len(s.Kernel) != 0 {
		t.Errorf("no columns: %v, error %d", s, e)
	}
	if y, e := elims.Against(blank(2, 0), vec("0 0")); e != api.ErrSingular || len(y) != 0 {
		t.Errorf("against no columns: %v, error %d", y, e)
	}
	if s, e := elims.Solve(blank(2, 0), vec("0 3")); e != api.ErrSingular || len(s.X) != 0 || len(s.Kernel) != 0 {
		t.Errorf("no columns: %v, error %d", s, e)
	}
	if y, e := elims.Against(blank(2, 0), vec("0 3")); e != api.OK || vecs.Text(y) != "[0 1/3]" {
		t.Errorf("against no columns: %s, error %d", vecs.Text(y), e)
	}
}

// P14.4 with 2048 rows and columns: the system for the certificate is longer than a matrix may be.
func TestAgainstLimit(t *testing.T) {
	a, b := blank(2048, 2048), make(vecs.Vec, 2048)
	for i := range 2047 {
		a.A[i*2048+i+1], b[i] = fracs.Int(2), fracs.Int(int64(i))
	}
	if y, e := elims.Against(a, b); e != api.ErrSingular || len(y) != 0 {
		t.Fatalf("against a system with solutions: %d elements, error %d", len(y), e)
	}
	b[2047] = fracs.Int(-4)
	y, e := elims.Against(a, b)
	if e != api.OK || len(y) != 2048 || y[2047] != read("-1/4") || vecs.Max(y[:2047]) != (fracs.Frac{}) {
		t.Fatalf("against a system without solutions: %d elements, error %d", len(y), e)
	}
}
