package mats_test

import (
	"slices"
	"strings"
	"testing"

	"gusset/api"
	"gusset/fracs"
	"gusset/mats"
	"gusset/vecs"
)

// The chapter's table of examples.
func TestExamples(t *testing.T) {
	m, e := mats.Of(2, 2, 1, 2, 3, 4)
	turn, f := mats.Turn(m)
	if e != api.OK || f != api.OK || mats.Text(m) != "[1 2] [3 4]" || mats.Text(turn) != "[1 3] [2 4]" {
		t.Errorf("%s, %s, errors %d and %d", mats.Text(m), mats.Text(turn), e, f)
	}
	square, e := mats.Mul(m, m)
	want(t, "Mul", square, e, tableOf(mat(2, 2, "7 10 15 22")))
	v, e := mats.Apply(m, vecs.Of(1, -1))
	wantVec(t, "Apply", v, e, rats(vec("-1 -1")))
	x, e := mats.Form(m, vecs.Of(1, 0), vecs.Of(0, 1))
	wantNumber(t, "Form", x, e, rat("2"))
	got, e := mats.Of(2, 2, 1)
	wantFault(t, "Of(2, 2, 1)", got, e, api.ErrArg)
	got, e = mats.Of(-1, 2049)
	wantFault(t, "Of(-1, 2049)", got, e, api.ErrArg)
	got, e = mats.Of(2049, 0)
	wantFault(t, "Of(2049, 0)", got, e, api.ErrLimit)
	got, e = mats.Of(0, 3)
	want(t, "Of(0, 3)", got, e, table{c: 3})
	got, e = mats.Part(m, []int{1, 0}, []int{1})
	if e != api.OK || mats.Text(got) != "[4] [2]" || mats.Sum(m) != fracs.Int(10) || mats.Symmetric(m) {
		t.Errorf("Part: %s, error %d; Sum: %s", mats.Text(got), e, fracs.Text(mats.Sum(m)))
	}
}

// P13.1: Check accepts all sizes up to the greatest, and only with the right number of elements.
func TestCheck(t *testing.T) {
	list := []mats.Mat{{}, {A: []fracs.Frac{}}, {R: 2048}, {C: 2048}, {R: 7, A: []fracs.Frac{}}, blank(2048, 1), blank(1, 2048), blank(2047, 3), blank(2048, 2048)}
	for _, s := range sizes() {
		list = append(list, family(s[0], s[1])...)
	}
	for _, m := range list {
		if e := mats.Check(m); e != api.OK {
			t.Errorf("Check of %d by %d with %d elements: error %d", m.R, m.C, len(m.A), e)
		}
	}
	for _, x := range invalids() {
		if e := mats.Check(x.m); e != x.fault {
			t.Errorf("Check of %d by %d with %d elements: error %d, want %d", x.m.R, x.m.C, len(x.m.A), e, x.fault)
		}
	}
	for r := range 4 {
		for c := range 4 {
			for n := range 20 {
				if e := mats.Check(mats.Mat{R: r, C: c, A: make([]fracs.Frac, n)}); (e == api.OK) != (n == r*c) || e != api.OK && e != api.ErrArg {
					t.Errorf("Check of %d by %d with %d elements: error %d", r, c, n, e)
				}
			}
		}
	}
}

// P13.5: a matrix is symmetric if it is valid, square, and equal to its transpose.
func TestSymmetric(t *testing.T) {
	for _, s := range sizes() {
		for _, m := range family(s[0], s[1]) {
			a := tableOf(m)
			is := m.R == m.C && equal(flat(a), flat(turned(a)))
			if mats.Symmetric(m) != is {
				t.Errorf("Symmetric of %d by %d %s is %t", m.R, m.C, shown(flat(a)), !is)
			}
		}
	}
	for _, m := range []mats.Mat{{}, {A: []fracs.Frac{}}, mat(1, 1, "-7/2"), mat(2, 2, "1 5 5 1"), mat(3, 3, "1 2 3 2 4 5/7 3 5/7 6"), blank(300, 300)} {
		if !mats.Symmetric(m) {
			t.Errorf("%d by %d %s is symmetric", m.R, m.C, shown(rats(m.A)))
		}
	}
	for _, m := range []mats.Mat{{R: 1}, {C: 1}, {C: 2048}, mat(2, 2, "1 5 -5 1"), mat(1, 4, "1 1 1 1"), mat(4, 1, "1 1 1 1")} {
		if mats.Symmetric(m) {
			t.Errorf("%d by %d %s is not symmetric", m.R, m.C, shown(rats(m.A)))
		}
	}
	for _, x := range invalids() {
		if mats.Symmetric(x.m) {
			t.Errorf("%d by %d with %d elements is not valid", x.m.R, x.m.C, len(x.m.A))
		}
	}
}

// P13.5: Symmetric looks at each pair of elements.
func TestSymmetricPairs(t *testing.T) {
	const n = 6
	for i := range n {
		for k := range n {
			m := blank(n, n)
			m.A[i*n+k] = read("1/3")
			if mats.Symmetric(m) != (i == k) {
				t.Errorf("Symmetric with one element at %d, %d is %t", i, k, i != k)
			}
			m.A[k*n+i] = read("1/3")
			if !mats.Symmetric(m) {
				t.Errorf("Symmetric with elements at %d, %d and %d, %d is false", i, k, k, i)
			}
		}
	}
}

// P13.5: matrices are equal if R, C and A are, also invalid ones.
func TestSame(t *testing.T) {
	list := []mats.Mat{
		{}, {R: 1}, {C: 1}, {R: 2}, {C: 2}, {R: 2048}, mat(1, 1, "0"), mat(1, 1, "1"), mat(1, 2, "1 2"), mat(2, 1, "1 2"), mat(1, 2, "2 1"), mat(2, 3, "1 2 3 4 5 6"),
		mat(3, 2, "1 2 3 4 5 6"), mat(6, 1, "1 2 3 4 5 6"), mat(2, 3, "1 2 3 4 5 7"), mat(2, 3, "0 2 3 4 5 6"), mat(2, 3, "1 2 3 -4 5 6"), mat(2, 3, "1 2 3 4 5/2 6"),
		{R: -1}, {R: -1, C: -1}, {R: 2, C: 2}, mat(2, 2, "1 2 3"), mat(2, 2, "1 2 3 4 5"), mat(-2, -2, "1 2 3 4"), {R: 2049}, {R: 2049, C: 2049},
	}
	for i, a := range list {
		for k, b := range list {
			if mats.Same(a, mats.Mat{R: b.R, C: b.C, A: slices.Clone(b.A)}) != (i == k) {
				t.Errorf("Same of %d by %d %s and %d by %d %s is %t", a.R, a.C, shown(rats(a.A)), b.R, b.C, shown(rats(b.A)), i != k)
			}
		}
	}
	if none := []fracs.Frac{}; !mats.Same(mats.Mat{R: -1}, mats.Mat{R: -1, A: none}) || !mats.Same(mats.Mat{C: 3, A: none}, mats.Mat{C: 3}) {
		t.Error("Same of nil and empty elements")
	}
	half, _ := fracs.Of(-2, -4)
	if !mats.Same(mats.Mat{R: 1, C: 1, A: []fracs.Frac{half}}, mat(1, 1, "1/2")) {
		t.Error("Same of -2/-4 and 1/2")
	}
}

// P13.5: the texts of the rows, and none for invalid matrices.
func TestText(t *testing.T) {
	for _, x := range []struct {
		m mats.Mat
		s string
	}{
		{mats.Mat{}, ""}, {mats.Mat{C: 3}, ""}, {mats.Mat{R: 1}, "[]"}, {mats.Mat{R: 3}, "[] [] []"}, {mat(1, 1, "0"), "[0]"}, {mat(1, 3, "1 -2 3"), "[1 -2 3]"},
		{mat(3, 1, "1 -2 3"), "[1] [-2] [3]"}, {mat(2, 2, "1/2 6/4 -5 0"), "[1/2 3/2] [-5 0]"}, {mat(3, 2, "1 2 3 4 5 6"), "[1 2] [3 4] [5 6]"},
		{mat(2, 1, "18446744073709551616 -1/18446744073709551617"), "[18446744073709551616] [-1/18446744073709551617]"},
	} {
		if got := mats.Text(x.m); got != x.s {
			t.Errorf("Text: %q, want %q", got, x.s)
		}
	}
	if mats.Text(mats.Mat{R: 2048}) != strings.Repeat("[] ", 2047)+"[]" || mats.Text(mats.Mat{C: 2048}) != "" {
		t.Error("Text of 2048 rows or columns without elements")
	}
	if mats.Text(blank(2048, 1)) != strings.Repeat("[0] ", 2047)+"[0]" || mats.Text(blank(1, 2048)) != "["+strings.Repeat("0 ", 2047)+"0]" {
		t.Error("Text of 2048 rows or columns")
	}
	for _, x := range invalids() {
		if got := mats.Text(x.m); got != "" {
			t.Errorf("Text of %d by %d with %d elements: %q", x.m.R, x.m.C, len(x.m.A), got)
		}
	}
}
