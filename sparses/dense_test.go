package sparses_test

import (
	"math"
	"testing"

	"gusset/api"
	"gusset/fracs"
	"gusset/mats"
	"gusset/sparses"
	"gusset/vecs"
)

// wantMat fails unless got is the matrix w with no room behind its elements, and e is OK.
func wantMat(t *testing.T, what string, got mats.Mat, e api.Errno, w mats.Mat) {
	t.Helper()
	if e != api.OK || !mats.Same(got, w) || cap(got.A) != len(got.A) {
		t.Fatalf("%s: %d by %d %s, capacity %d, error %d, want %d by %d %s", what, got.R, got.C, mats.Text(got), cap(got.A), e, w.R, w.C, mats.Text(w))
	}
}

// P16.3: the dense form, and the way back.
func TestDense(t *testing.T) {
	for _, size := range append(sizes(), [2]int{2048, 0}, [2]int{0, 2048}, [2]int{2048, 2}, [2]int{2, 2048}) {
		for _, m := range family(size[0], size[1]) {
			a, e := sparses.Dense(thin(m))
			wantMat(t, "Dense", a, e, m)
			s, e := sparses.OfDense(m)
			want(t, "OfDense", s, e, m)
		}
	}
	for _, x := range invalids() {
		if a, e := sparses.Dense(x.s); e != x.fault || a.R != 0 || a.C != 0 || a.A != nil {
			t.Errorf("Dense of %s: error %d, want %d", shown(x.s), e, x.fault)
		}
	}
}

// P16.3: the largest matrices.
func TestLargestDense(t *testing.T) {
	a := good[mats.Mat](t)(sparses.Dense(striped(2048, 2048, "1 -2 1/3")))
	due := striped(2048, 2048, "1 -2 1/3")
	if n := len(a.A); n != 2048*2048 || a.A[n-1] != read("-2") || a.A[n-2] != read("1") || a.A[1] != read("1/3") || a.A[2048] != read("1") || a.A[2047] != zero {
		t.Errorf("Dense has %d elements", n)
	}
	s, e := sparses.OfDense(a)
	wantSparse(t, "OfDense", s, e, due)
}

// P16.3: OfDense returns the error of mats.Check.
func TestOfDenseFaults(t *testing.T) {
	for _, x := range badSizes() {
		s, e := sparses.OfDense(mats.Mat{R: x.n, C: x.m})
		wantFault(t, "OfDense", s, e, x.fault)
		s, e = sparses.OfDense(mats.Mat{R: x.n, C: x.m, A: vec("1 2")})
		wantFault(t, "OfDense", s, e, x.fault)
	}
	for _, a := range []mats.Mat{mat(2, 2, ""), mat(2, 2, "1 2 3"), mat(2, 2, "1 2 3 4 5"), mat(0, 0, "1"), mat(0, 3, "0 0 0"), mat(3, 0, "0"), mat(1, 2048, "7"), {R: 2048, C: 2048}} {
		s, e := sparses.OfDense(a)
		wantFault(t, "OfDense", s, e, api.ErrArg)
	}
}

// P16.3: entries at all positions, stored or not, and none elsewhere.
func TestAt(t *testing.T) {
	for _, size := range sizes() {
		for _, m := range family(size[0], size[1]) {
			s := thin(m)
			for i, due := range m.A {
				if x, ok := sparses.At(s, i/m.C, i%m.C); x != due || !ok {
					t.Fatalf("At(%d, %d) of %s: %s, %t", i/m.C, i%m.C, shown(s), fracs.Text(x), ok)
				}
			}
			for _, i := range beyond(m.R) {
				for _, k := range append(beyond(m.C), 0, m.C-1) {
					wantNone(t, s, i, k)
				}
			}
			for _, k := range beyond(m.C) {
				wantNone(t, s, 0, k)
				wantNone(t, s, m.R-1, k)
			}
		}
	}
	for _, x := range invalids() {
		for _, i := range []int{0, 1, 2, -1, 2048, math.MaxInt, math.MinInt} {
			wantNone(t, x.s, 0, i)
			wantNone(t, x.s, i, 0)
			wantNone(t, x.s, i, i)
		}
	}
	s := striped(2048, 2048, "1 -2 1/3")
	for _, x := range []struct {
		i, k int
		v    string
	}{{0, 0, "-2"}, {0, 1, "1/3"}, {0, 2, "0"}, {0, 2047, "0"}, {2047, 2047, "-2"}, {2047, 2046, "1"}, {2047, 0, "0"}, {1000, 999, "1"}, {1000, 998, "0"}} {
		if v, ok := sparses.At(s, x.i, x.k); v != read(x.v) || !ok {
			t.Errorf("At(%d, %d): %s, %t", x.i, x.k, fracs.Text(v), ok)
		}
	}
}

// wantNone fails if s has an entry at (i, k).
func wantNone(t *testing.T, s sparses.Sparse, i, k int) {
	t.Helper()
	if x, ok := sparses.At(s, i, k); ok || x != zero {
		t.Fatalf("At(%d, %d) of %s: %s, %t", i, k, shown(s), fracs.Text(x), ok)
	}
}

// P16.3: the diagonal ends with the rows or with the columns.
func TestDiag(t *testing.T) {
	for _, size := range append(sizes(), [2]int{2048, 0}, [2]int{0, 2048}, [2]int{2048, 2}, [2]int{2, 2048}) {
		for _, m := range family(size[0], size[1]) {
			due := vecs.Vec{}
			for i := range min(m.R, m.C) {
				due = append(due, m.A[i*m.C+i])
			}
			v, e := sparses.Diag(thin(m))
			wantVec(t, "Diag", v, e, due)
		}
	}
	v, e := sparses.Diag(striped(2048, 2048, "1 0 3"))
	wantVec(t, "Diag of zeros", v, e, make(vecs.Vec, 2048))
	for _, x := range invalids() {
		v, e := sparses.Diag(x.s)
		wantVecFault(t, "Diag", v, e, x.fault)
	}
}
