package elims_test

import (
	"math"
	"testing"

	"gusset/api"
	"gusset/elims"
	"gusset/fracs"
	"gusset/mats"
	"gusset/vecs"
)

// outcome is what a function returned, as far as its errors are concerned.
type outcome struct {
	e     api.Errno
	items int // what came with the error: elements, rows, vectors
}

// number counts a result that is a number.
func number(x fracs.Frac) int {
	if x != (fracs.Frac{}) {
		return 1
	}
	return 0
}

// matrices calls all functions that take a matrix alone.
func matrices(m mats.Mat) []outcome {
	r, pivots, e0 := elims.Reduce(m)
	n, e1 := elims.Rank(m)
	l, e2 := elims.Kernel(m)
	inverse, e3 := elims.Inverse(m)
	x, e4 := elims.Det(m)
	return []outcome{{e0, r.R + r.C + len(r.A) + len(pivots)}, {e1, n}, {e2, len(l)}, {e3, inverse.R + inverse.C + len(inverse.A)}, {e4, number(x)}}
}

// systems calls all functions that take a matrix and a vector.
func systems(m mats.Mat, b vecs.Vec) []outcome {
	s, e0 := elims.Solve(m, b)
	y, e1 := elims.Against(m, b)
	return []outcome{{e0, len(s.X) + len(s.Kernel)}, {e1, len(y)}}
}

// minor calls Minor.
func minor(m mats.Mat, n int) outcome {
	x, e := elims.Minor(m, n)
	return outcome{e, number(x)}
}

// wantFault fails unless all of l are the error, and nothing came with it.
func wantFault(t *testing.T, what string, fault api.Errno, l ...outcome) {
	t.Helper()
	for i, o := range l {
		if o.e != fault || o.items != 0 {
			t.Errorf("%s, function %d: error %d with %d items, want error %d", what, i, o.e, o.items, fault)
		}
	}
}

// The error of the matrix comes first, whatever else there is.
func TestInvalidMatrices(t *testing.T) {
	for _, c := range invalids() {
		what := "a matrix that may not be"
		wantFault(t, what, c.fault, matrices(c.m)...)
		for _, n := range []int{0, 1, -1, 2049, 5000, math.MinInt, math.MaxInt} {
			wantFault(t, what, c.fault, minor(c.m, n))
		}
		for _, n := range []int{0, 1, 2, 2048, 2049, 2050} {
			wantFault(t, what, c.fault, systems(c.m, make(vecs.Vec, n))...)
		}
	}
}

// A vector that is too long is ErrLimit, and one of any other length but the number of rows is ErrArg.
func TestInvalidVectors(t *testing.T) {
	for _, m := range []mats.Mat{{}, blank(0, 3), blank(2, 2), mat(2, 2, "1 2 3 4"), mat(2, 3, "1 2 3 4 5 6"), blank(3, 0), blank(2048, 1)} {
		for _, n := range []int{2049, 2050, 4096} {
			wantFault(t, mats.Text(m), api.ErrLimit, systems(m, make(vecs.Vec, n))...)
		}
		for _, n := range []int{0, 1, 2, 3, 4, 2047, 2048} {
			if n != m.R {
				wantFault(t, mats.Text(m), api.ErrArg, systems(m, make(vecs.Vec, n))...)
			}
		}
	}
}

// Only square matrices have inverses and determinants.
func TestNotSquare(t *testing.T) {
	for _, m := range []mats.Mat{blank(0, 1), blank(1, 0), blank(0, 2048), blank(2048, 0), mat(1, 2, "1 2"), mat(2, 1, "1 2"), mat(2, 3, "1 0 0 0 1 0"), blank(3, 2), blank(2047, 2)} {
		wantFault(t, mats.Text(m), api.ErrArg, matrices(m)[3:]...)
	}
}

// A minor has at least no row, and no more rows than the matrix has rows and columns.
func TestMinorErrors(t *testing.T) {
	for _, m := range []mats.Mat{{}, blank(0, 3), blank(3, 0), mat(1, 1, "5"), mat(2, 3, "1 2 3 4 5 6"), mat(3, 2, "1 2 3 4 5 6"), mat(2, 2, "1 2 3 4")} {
		least := min(m.R, m.C)
		for _, n := range []int{-1, -2, -least - 1, math.MinInt, least + 1, max(m.R, m.C) + 1, m.R*m.C + 1, 2048, 2049, math.MaxInt} {
			wantFault(t, mats.Text(m), api.ErrArg, minor(m, n))
		}
		if o := minor(m, least); o.e != api.OK {
			t.Errorf("%s: Minor of %d rows, error %d", mats.Text(m), least, o.e)
		}
	}
}

// R3: nil and empty slices are the same argument.
func TestNil(t *testing.T) {
	for _, m := range []mats.Mat{{}, {C: 3}, {R: 3}} {
		empty := mats.Mat{R: m.R, C: m.C, A: []fracs.Frac{}}
		a, b := append(matrices(m), minor(m, 0)), append(matrices(empty), minor(empty, 0))
		if m.R == 0 {
			a, b = append(a, systems(m, nil)...), append(b, systems(empty, vecs.Vec{})...)
		}
		for i := range a {
			if a[i] != b[i] {
				t.Errorf("%d by %d, function %d: %v and %v", m.R, m.C, i, a[i], b[i])
			}
		}
	}
}
