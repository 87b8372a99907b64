package elims_test

import (
	"testing"

	"gusset/api"
	"gusset/elims"
	"gusset/fracs"
	"gusset/mats"
)

// squares returns square matrices: those of many, some of 0, 1 and -1, and larger ones.
func squares() []mats.Mat {
	list := all(3, 3, 0, 1, -1)[5000:9000]
	for _, m := range many() {
		if m.R == m.C {
			list = append(list, m)
		}
	}
	s := &series{1453}
	return append(list, s.matrix(5, 5), s.low(5, 5, 4), s.low(6, 6, 5), s.matrix(6, 6))
}

// P14.5: the determinant is the sum over all permutations.
func TestDet(t *testing.T) {
	for _, m := range squares() {
		w := frac(det(tableOf(m)))
		if x, e := elims.Det(m); e != api.OK || x != w {
			t.Fatalf("Det of %s: %s, error %d, want %s", mats.Text(m), fracs.Text(x), e, fracs.Text(w))
		}
	}
	permute(6, func(p []int, sign int64) {
		m := blank(6, 6)
		for i, k := range p {
			m.A[i*6+k] = fracs.Int(int64(i + 1))
		}
		if x, e := elims.Det(m); e != api.OK || x != fracs.Int(720*sign) {
			t.Fatalf("Det of %s: %s, error %d, want %d", mats.Text(m), fracs.Text(x), e, 720*sign)
		}
	})
}

// P14.5: the determinant of the matrix of 1/(i + k + 1), whose inverse consists of integers.
func TestHilbert(t *testing.T) {
	hilbert := good[mats.Mat](t)(mats.Make(12, 12, func(i, k int) fracs.Frac {
		x, _ := fracs.Of(1, int64(i+k+1))
		return x
	}))
	if x, e := elims.Minor(hilbert, 5); e != api.OK || x != read("1/266716800000") {
		t.Errorf("Minor of 5 rows: %s, error %d", fracs.Text(x), e)
	}
	inverse := good[mats.Mat](t)(elims.Inverse(hilbert))
	for _, x := range inverse.A {
		if !fracs.Whole(x) {
			t.Fatalf("the inverse has the element %s", fracs.Text(x))
		}
	}
	if !same(product(tableOf(hilbert), tableOf(inverse)), one(12)) {
		t.Error("the product with the inverse is not the identity")
	}
}

// P14.5: both products with the inverse are the identity, and there is one if the determinant is not 0.
func TestInverse(t *testing.T) {
	s := &series{1459}
	for _, m := range append(squares(), s.matrix(15, 15)) {
		n, e := elims.Inverse(m)
		if m.R < 10 && det(tableOf(m)).Sign() == 0 {
			if e != api.ErrSingular || n.R != 0 || n.C != 0 || len(n.A) != 0 {
				t.Fatalf("Inverse of %s: %s, error %d", mats.Text(m), mats.Text(n), e)
			}
			continue
		}
		if e != api.OK || n.R != m.R || n.C != m.R || len(n.A) != len(m.A) || cap(n.A) != len(n.A) {
			t.Fatalf("Inverse of %s: %d by %d, error %d", mats.Text(m), n.R, n.C, e)
		}
		a, b := tableOf(m), tableOf(n)
		if !same(product(a, b), one(m.R)) || !same(product(b, a), one(m.R)) {
			t.Fatalf("Inverse of %s: %s", mats.Text(m), mats.Text(n))
		}
	}
}

// P14.5: the minors of matrices that need not be square.
func TestMinor(t *testing.T) {
	for _, m := range many() {
		for n := range min(m.R, m.C) + 1 {
			w := frac(det(part(tableOf(m), upTo(n), upTo(n))))
			if x, e := elims.Minor(m, n); e != api.OK || x != w {
				t.Fatalf("Minor of %s of %d rows: %s, error %d, want %s", mats.Text(m), n, fracs.Text(x), e, fracs.Text(w))
			}
		}
	}
}

// The empty matrix has the determinant 1, and is its own inverse.
func TestEmptySquare(t *testing.T) {
	if x, e := elims.Det(mats.Mat{}); e != api.OK || x != fracs.Int(1) {
		t.Errorf("Det: %s, error %d", fracs.Text(x), e)
	}
	if n, e := elims.Inverse(mats.Mat{}); e != api.OK || n.R != 0 || n.C != 0 || len(n.A) != 0 {
		t.Errorf("Inverse: %d by %d, error %d", n.R, n.C, e)
	}
	for _, m := range []mats.Mat{{}, blank(0, 3), blank(3, 0), blank(2, 2)} {
		if x, e := elims.Minor(m, 0); e != api.OK || x != fracs.Int(1) {
			t.Errorf("Minor of %d by %d: %s, error %d", m.R, m.C, fracs.Text(x), e)
		}
	}
}
