package sparses_test

import (
	"slices"
	"testing"

	"gusset/api"
	"gusset/fracs"
	"gusset/mats"
	"gusset/sparses"
	"gusset/vecs"
)

// long returns a vector of n elements, of which one out of seven is 0.
func long(n int) vecs.Vec {
	v := make(vecs.Vec, n)
	for i := range v {
		v[i], _ = fracs.Of(int64(i%7-3), int64(1+i%2))
	}
	return v
}

// P16.4: Apply, Form and Turn are those of the dense forms.
func TestProductsWithVectors(t *testing.T) {
	for _, size := range sizes() {
		for _, m := range family(size[0], size[1]) {
			s := thin(m)
			turn, e := sparses.Turn(s)
			want(t, "Turn", turn, e, good[mats.Mat](t)(mats.Turn(m)))
			for _, w := range vectors(m.C) {
				got, e := sparses.Apply(s, w)
				wantVec(t, "Apply", got, e, good[vecs.Vec](t)(mats.Apply(m, w)))
				for _, v := range vectors(m.R) {
					x, e := sparses.Form(s, v, w)
					if due := good[fracs.Frac](t)(mats.Form(m, v, w)); x != due || e != api.OK {
						t.Fatalf("Form of %s: %s, error %d, want %s", shown(s), fracs.Text(x), e, fracs.Text(due))
					}
				}
			}
		}
	}
}

// P16.4: Add and Scale are those of the dense forms.
func TestSums(t *testing.T) {
	for _, size := range sizes() {
		for _, m := range family(size[0], size[1]) {
			for _, n := range family(size[0], size[1]) {
				sum, e := sparses.Add(thin(m), thin(n))
				want(t, "Add", sum, e, good[mats.Mat](t)(mats.Add(m, n)))
			}
			for _, c := range numbers() {
				scaled, e := sparses.Scale(c, thin(m))
				want(t, "Scale", scaled, e, good[mats.Mat](t)(mats.Scale(c, m)))
			}
			opposite := good[mats.Mat](t)(mats.Scale(fracs.Int(-1), m))
			sum, e := sparses.Add(thin(m), thin(opposite))
			want(t, "Add of the opposite", sum, e, none(m.R, m.C))
		}
	}
}

// P16.4: Mul is that of the dense forms, for all fitting sizes.
func TestMul(t *testing.T) {
	for r := range 5 {
		for n := range 5 {
			for c := range 5 {
				for _, a := range family(r, n) {
					for _, b := range family(n, c) {
						s, e := sparses.Mul(thin(a), thin(b))
						want(t, "Mul", s, e, good[mats.Mat](t)(mats.Mul(a, b)))
					}
				}
			}
		}
	}
	s, e := sparses.Mul(thin(mat(2, 3, "1 1 0 0 2 1")), thin(mat(3, 2, "1 3 -1 0 2 -6")))
	want(t, "Mul with sums that are 0", s, e, mat(2, 2, "0 3 0 -6"))
}

// P16.4: the largest matrices.
func TestLargestMatrices(t *testing.T) {
	const n = 2048
	s, one := striped(n, n, "1 -2 1/3"), striped(n, n, "0 1")
	v := long(n)
	due := make(vecs.Vec, n)
	for i := range n {
		for k, c := range vec("1 -2 1/3") {
			if at := i + k - 1; 0 <= at && at < n {
				due[i] = fracs.Add(due[i], fracs.Mul(c, v[at]))
			}
		}
	}
	got, e := sparses.Apply(s, v)
	wantVec(t, "Apply", got, e, due)
	x, e := sparses.Form(s, v, v)
	if y := good[fracs.Frac](t)(vecs.Dot(v, due)); x != y || e != api.OK {
		t.Errorf("Form: %s, error %d, want %s", fracs.Text(x), e, fracs.Text(y))
	}
	turn, e := sparses.Turn(s)
	wantSparse(t, "Turn", turn, e, striped(n, n, "1/3 -2 1"))
	sum, e := sparses.Add(s, striped(n, n, "-1 5 1"))
	wantSparse(t, "Add", sum, e, striped(n, n, "0 3 4/3"))
	scaled, e := sparses.Scale(read("3/2"), s)
	wantSparse(t, "Scale", scaled, e, striped(n, n, "3/2 -3 1/2"))
	mul, e := sparses.Mul(s, one)
	wantSparse(t, "Mul by One", mul, e, s)
	mul, e = sparses.Mul(striped(n, n, "1"), striped(n, n, "0 0 2"))
	two := striped(n, n, "0 2")
	two.Rows[0] = nil // the first row goes beyond the matrix and back
	wantSparse(t, "Mul by stripes", mul, e, two)
	mul, e = sparses.Mul(thin(none(n, 0)), thin(none(0, n)))
	wantSparse(t, "Mul of nothing", mul, e, striped(n, n, "0"))
	part, e := sparses.Part(s, upTo(n), upTo(n))
	wantSparse(t, "Part", part, e, s)
}

// P16.4: Part takes rows and columns in any order, more than once or not at all.
func TestPart(t *testing.T) {
	s := &series{1627}
	for _, size := range sizes() {
		for _, m := range family(size[0], size[1]) {
			for range 8 {
				rows, cols := s.indices(s.below(7)*min(m.R, 1), m.R+1-min(m.R, 1)), s.indices(s.below(9)*min(m.C, 1), m.C+1-min(m.C, 1))
				part, e := sparses.Part(thin(m), rows, cols)
				want(t, "Part", part, e, good[mats.Mat](t)(mats.Part(m, rows, cols)))
			}
			part, e := sparses.Part(thin(m), upTo(m.R), nil)
			want(t, "Part without columns", part, e, none(m.R, 0))
			part, e = sparses.Part(thin(m), nil, upTo(m.C))
			want(t, "Part without rows", part, e, none(0, m.C))
			part, e = sparses.Part(thin(m), []int{}, []int{})
			want(t, "Part of nothing", part, e, none(0, 0))
		}
	}
	m := mat(3, 4, "1 0 3 4 5 6 0 8 0 0 11 18446744073709551617/3")
	part, e := sparses.Part(thin(m), []int{2, 0, 2}, []int{3, 1, 3, 0, 3})
	want(t, "Part", part, e, mat(3, 5, "18446744073709551617/3 0 18446744073709551617/3 0 18446744073709551617/3 4 0 4 1 4 18446744073709551617/3 0 18446744073709551617/3 0 18446744073709551617/3"))
	most := make([]int, 2048)
	for i := range most {
		most[i] = i * 5 % 3
	}
	part, e = sparses.Part(thin(m), most, []int{3, 0})
	want(t, "Part of many rows", part, e, good[mats.Mat](t)(mats.Part(m, most, []int{3, 0})))
	part, e = sparses.Part(thin(m), []int{1}, most)
	want(t, "Part of many columns", part, e, good[mats.Mat](t)(mats.Part(m, []int{1}, most)))
}

// P16.6: matrices are the same if and only if their dense forms are.
func TestSameAsDense(t *testing.T) {
	var list []mats.Mat
	for _, size := range sizes() {
		list = append(list, family(size[0], size[1])...)
	}
	for _, a := range list {
		for _, b := range list {
			if got := sparses.Same(thin(a), thin(b)); got != mats.Same(a, b) {
				t.Errorf("Same of %s and %s: %t", mats.Text(a), mats.Text(b), got)
			}
			same := sparses.Text(thin(a)) == sparses.Text(thin(b))
			if same != mats.Same(a, b) {
				t.Errorf("texts of %s and %s: %t", mats.Text(a), mats.Text(b), same)
			}
		}
	}
}

// P16.6: every 0-1 matrix of two rows and three columns, and every pair of them.
func TestAllSmallMatrices(t *testing.T) {
	var list []mats.Mat
	for bits := range 64 {
		m := none(2, 3)
		for i := range m.A {
			if bits>>i&1 == 1 {
				m.A[i] = fracs.Int(1)
			}
		}
		list = append(list, m)
	}
	minus := good[mats.Mat](t)(mats.Scale(fracs.Int(-1), mat(2, 3, "1 1 1 1 1 1")))
	for _, a := range list {
		sum, e := sparses.Add(thin(a), thin(minus))
		want(t, "Add", sum, e, good[mats.Mat](t)(mats.Add(a, minus)))
		for _, b := range list {
			turn := good[mats.Mat](t)(mats.Turn(b))
			mul, e := sparses.Mul(thin(a), thin(turn))
			want(t, "Mul", mul, e, good[mats.Mat](t)(mats.Mul(a, turn)))
			if slices.Equal(a.A, b.A) != sparses.Same(thin(a), thin(b)) {
				t.Errorf("Same of %s and %s", mats.Text(a), mats.Text(b))
			}
		}
	}
}
