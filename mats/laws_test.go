package mats_test

import (
	"testing"

	"gusset/fracs"
	"gusset/mats"
	"gusset/vecs"
)

// same fails unless a and b are equal.
func same(t *testing.T, law string, a, b mats.Mat) {
	t.Helper()
	if !mats.Same(a, b) {
		t.Fatalf("%s: %d by %d %s and %d by %d %s", law, a.R, a.C, mats.Text(a), b.R, b.C, mats.Text(b))
	}
}

// sameVec fails unless a and b are equal.
func sameVec(t *testing.T, law string, a, b vecs.Vec) {
	t.Helper()
	if !vecs.Same(a, b) {
		t.Fatalf("%s: %s and %s", law, vecs.Text(a), vecs.Text(b))
	}
}

// P13.6: the product is associative, its transpose is the product of the transposes in reverse order, and applying it
// is applying its factors.
func TestProductLaws(t *testing.T) {
	m, v := good[mats.Mat](t), good[vecs.Vec](t)
	for p := range 4 {
		for q := range 4 {
			for _, a := range family(p, q) {
				for r := range 4 {
					for _, b := range family(q, r) {
						ab := m(mats.Mul(a, b))
						same(t, "transpose", m(mats.Turn(ab)), m(mats.Mul(m(mats.Turn(b)), m(mats.Turn(a)))))
						for _, x := range vectors(r) {
							sameVec(t, "Apply", v(mats.Apply(ab, x)), v(mats.Apply(a, v(mats.Apply(b, x)))))
						}
						for _, c := range family(r, 2) {
							same(t, "associative", m(mats.Mul(ab, c)), m(mats.Mul(a, m(mats.Mul(b, c)))))
						}
					}
				}
			}
		}
	}
}

// P13.6: the product distributes over sums and multiples, on both sides.
func TestDistribution(t *testing.T) {
	m := good[mats.Mat](t)
	for p := range 4 {
		for q := range 4 {
			for _, a := range family(p, q) {
				for _, b := range family(p, q) {
					for _, c := range family(q, 3) {
						same(t, "a sum on the left", m(mats.Mul(m(mats.Add(a, b)), c)), m(mats.Add(m(mats.Mul(a, c)), m(mats.Mul(b, c)))))
						same(t, "a difference on the left", m(mats.Mul(m(mats.Sub(a, b)), c)), m(mats.Sub(m(mats.Mul(a, c)), m(mats.Mul(b, c)))))
					}
					for _, c := range family(2, p) {
						same(t, "a sum on the right", m(mats.Mul(c, m(mats.Add(a, b)))), m(mats.Add(m(mats.Mul(c, a)), m(mats.Mul(c, b)))))
					}
				}
				for _, x := range numbers() {
					for _, c := range family(q, 2) {
						scaled := m(mats.Scale(x, m(mats.Mul(a, c))))
						same(t, "a multiple on the left", m(mats.Mul(m(mats.Scale(x, a)), c)), scaled)
						same(t, "a multiple on the right", m(mats.Mul(a, m(mats.Scale(x, c)))), scaled)
					}
				}
			}
		}
	}
}

// P13.6: One is neutral.
func TestNeutral(t *testing.T) {
	m, v := good[mats.Mat](t), good[vecs.Vec](t)
	for _, s := range append(sizes(), [2]int{40, 30}) {
		left, right := m(mats.One(s[0])), m(mats.One(s[1]))
		for _, a := range family(s[0], s[1]) {
			same(t, "One on the left", m(mats.Mul(left, a)), a)
			same(t, "One on the right", m(mats.Mul(a, right)), a)
		}
		for _, x := range vectors(s[0]) {
			sameVec(t, "One applied", v(mats.Apply(left, x)), x)
			sameVec(t, "Diag applied to ones", v(mats.Apply(m(mats.Diag(x)), ones(s[0]))), x)
		}
	}
}

// ones returns a vector of n ones.
func ones(n int) vecs.Vec {
	v := make(vecs.Vec, n)
	for i := range v {
		v[i] = fracs.Int(1)
	}
	return v
}

// P13.7: the form of the transpose, of a symmetric matrix, and of a transpose times the matrix.
func TestFormLaws(t *testing.T) {
	m, v, x := good[mats.Mat](t), good[vecs.Vec](t), good[fracs.Frac](t)
	for _, s := range sizes() {
		for _, a := range family(s[0], s[1]) {
			turn := m(mats.Turn(a))
			square := m(mats.Mul(turn, a))
			if !mats.Symmetric(square) {
				t.Fatalf("%s is not symmetric", mats.Text(square))
			}
			for _, w := range vectors(a.C) {
				for _, u := range vectors(a.R) {
					if x(mats.Form(a, u, w)) != x(mats.Form(turn, w, u)) {
						t.Fatalf("Form of %s and its transpose with %s and %s", mats.Text(a), vecs.Text(u), vecs.Text(w))
					}
				}
				for _, u := range vectors(a.C) {
					if x(mats.Form(square, u, w)) != x(mats.Form(square, w, u)) {
						t.Fatalf("Form of %s with %s and %s", mats.Text(square), vecs.Text(u), vecs.Text(w))
					}
				}
				applied := v(mats.Apply(a, w))
				energy := x(mats.Form(square, w, w))
				if energy != x(vecs.Dot(applied, applied)) || fracs.Sign(energy) < 0 {
					t.Fatalf("Form of %s with %s twice is %s", mats.Text(square), vecs.Text(w), fracs.Text(energy))
				}
			}
		}
	}
}

// P13.8: a matrix is the sum of the outer products of its columns with the unit vectors.
func TestColumnLaw(t *testing.T) {
	m, v := good[mats.Mat](t), good[vecs.Vec](t)
	for _, s := range sizes() {
		for _, a := range family(s[0], s[1]) {
			sum := m(mats.Make(a.R, a.C, nil))
			for k := range a.C {
				sum = m(mats.Add(sum, m(mats.Outer(v(mats.Col(a, k)), v(vecs.Unit(a.C, k))))))
			}
			same(t, "columns", sum, a)
			sum = m(mats.Make(a.R, a.C, nil))
			for i := range a.R {
				sum = m(mats.Add(sum, m(mats.Outer(v(vecs.Unit(a.R, i)), v(mats.Row(a, i))))))
			}
			same(t, "rows", sum, a)
		}
	}
}

// P13.8: the Part of all rows and columns, and a Part of a Part.
func TestPartLaws(t *testing.T) {
	m, s := good[mats.Mat](t), &series{1319}
	for _, size := range sizes() {
		for _, a := range family(size[0], size[1]) {
			same(t, "all rows and columns", m(mats.Part(a, upTo(a.R), upTo(a.C))), a)
			if a.R == 0 || a.C == 0 {
				continue
			}
			for range 10 {
				rows, cols := s.indices(1+s.below(6), a.R), s.indices(1+s.below(6), a.C)
				ofRows, ofCols := s.indices(s.below(7), len(rows)), s.indices(s.below(7), len(cols))
				part := m(mats.Part(m(mats.Part(a, rows, cols)), ofRows, ofCols))
				same(t, "a Part of a Part", part, m(mats.Part(a, composed(rows, ofRows), composed(cols, ofCols))))
			}
		}
	}
}

// upTo returns the indices below n.
func upTo(n int) []int {
	l := make([]int, n)
	for i := range l {
		l[i] = i
	}
	return l
}

// composed returns the elements of l at the indices at.
func composed(l, at []int) []int {
	out := make([]int, len(at))
	for i, k := range at {
		out[i] = l[k]
	}
	return out
}
