package mats_test

import (
	"math/big"
	"testing"

	"gusset/api"
	"gusset/fracs"
	"gusset/mats"
	"gusset/vecs"
)

// P13.3: products of matrices of all fitting sizes.
func TestMul(t *testing.T) {
	for r := range 5 {
		for n := range 5 {
			for c := range 4 {
				for _, a := range family(r, n) {
					for _, b := range family(n, c) {
						m, e := mats.Mul(a, b)
						want(t, "Mul", m, e, product(tableOf(a), tableOf(b)))
					}
				}
			}
		}
	}
}

// P13.3: products of the greatest lengths.
func TestLongProducts(t *testing.T) {
	v, w := long(2048), long(2048)
	w[2047], v[2047] = read("1/9"), read("5")
	row, below := mats.Mat{R: 1, C: 2048, A: v}, mats.Mat{R: 2048, C: 1, A: w}
	dot := product(tableOf(row), tableOf(below))
	m, e := mats.Mul(row, below)
	want(t, "Mul of a row and a column", m, e, dot)
	x, e := mats.Apply(row, w)
	wantVec(t, "Apply of a row", x, e, flat(dot))
	x, e = mats.Apply(below, vecs.Of(3))
	wantVec(t, "Apply of a column", x, e, flat(product(tableOf(below), tableOf(mat(1, 1, "3")))))
	d, e := mats.Form(row, vecs.Of(1), w)
	wantNumber(t, "Form of a row", d, e, dot.rows[0][0])
	d, e = mats.Form(below, v, vecs.Of(1))
	wantNumber(t, "Form of a column", d, e, dot.rows[0][0])
	m, e = mats.Turn(row)
	want(t, "Turn of a row", m, e, turned(tableOf(row)))
	outer, e := mats.Outer(v, w)
	mul, f := mats.Mul(mats.Mat{R: 2048, C: 1, A: v}, mats.Mat{R: 1, C: 2048, A: w})
	if e != api.OK || f != api.OK || outer.R != 2048 || outer.C != 2048 || !mats.Same(outer, mul) {
		t.Errorf("Outer and Mul of a column and a row: errors %d and %d", e, f)
	}
	if at := outer.A[2047*2048+7]; at != fracs.Mul(v[2047], w[7]) {
		t.Errorf("Outer has %s at 2047, 7", fracs.Text(at))
	}
	m, e = mats.Mul(blank(2048, 0), blank(0, 3))
	want(t, "Mul of nothing", m, e, tableOf(blank(2048, 3)))
}

// P13.3 and P13.4: Apply, Turn and Form.
func TestProducts(t *testing.T) {
	for _, s := range sizes() {
		for _, m := range family(s[0], s[1]) {
			a := tableOf(m)
			turn, e := mats.Turn(m)
			want(t, "Turn", turn, e, turned(a))
			for _, w := range vectors(m.C) {
				got, e := mats.Apply(m, w)
				applied := product(a, tableOfColumn(w))
				wantVec(t, "Apply", got, e, flat(applied))
				for _, v := range vectors(m.R) {
					x, e := mats.Form(m, v, w)
					wantNumber(t, "Form", x, e, product(turned(tableOfColumn(v)), applied).rows[0][0])
				}
			}
		}
	}
}

// P13.4: Outer of vectors of all lengths.
func TestOuter(t *testing.T) {
	for r := range 5 {
		for c := range 5 {
			for _, v := range vectors(r) {
				for _, w := range vectors(c) {
					m, e := mats.Outer(v, w)
					x, y := rats(v), rats(w)
					want(t, "Outer", m, e, fill(r, c, func(i, k int) *big.Rat { return times(x[i], y[k]) }))
				}
			}
		}
	}
	m, e := mats.Outer(numbers(), numbers())
	x := rats(numbers())
	want(t, "Outer", m, e, fill(len(x), len(x), func(i, k int) *big.Rat { return times(x[i], x[k]) }))
	m, e = mats.Outer(nil, long(2048))
	want(t, "Outer of nothing", m, e, table{c: 2048})
	m, e = mats.Outer(long(2048), nil)
	want(t, "Outer with nothing", m, e, tableOf(blank(2048, 0)))
	for _, s := range [][2]int{{2049, 0}, {0, 2049}, {2049, 1}, {1, 2049}, {2049, 2049}, {2048, 2049}, {2049, 2048}, {5000, 2}} {
		m, e = mats.Outer(long(s[0]), long(s[1]))
		wantFault(t, "Outer", m, e, api.ErrLimit)
	}
}

// P13.3: Mul of matrices that do not fit.
func TestMulFaults(t *testing.T) {
	for _, s := range sizes() {
		for _, u := range sizes() {
			m, e := mats.Mul(blank(s[0], s[1]), blank(u[0], u[1]))
			if s[1] == u[0] {
				want(t, "Mul", m, e, tableOf(blank(s[0], u[1])))
			} else {
				wantFault(t, "Mul", m, e, api.ErrArg)
			}
		}
	}
	m, e := mats.Mul(blank(0, 2048), blank(2047, 0))
	wantFault(t, "Mul", m, e, api.ErrArg)
}

// P13.3 and P13.4: vectors that are too long, or do not fit. The former come first.
func TestVectorFaults(t *testing.T) {
	for _, s := range append(sizes(), [2]int{2048, 1}, [2]int{1, 2048}) {
		m := blank(s[0], s[1])
		lengths := []int{0, 1, 2, 3, 4, 5, 2047, 2048, 2049, 2050, 4096}
		for _, c := range lengths {
			v, e := mats.Apply(m, long(c))
			if fault := misfit(c > 2048, c != m.C); fault != api.OK {
				wantVecFault(t, "Apply", v, e, fault)
			} else {
				wantVec(t, "Apply", v, e, flat(tableOf(blank(m.R, 1))))
			}
			for _, r := range lengths {
				x, e := mats.Form(m, long(r), long(c))
				if fault := misfit(r > 2048 || c > 2048, r != m.R || c != m.C); x != (fracs.Frac{}) || e != fault {
					t.Fatalf("Form of %d by %d with vectors of %d and %d: %s, error %d, want %d", m.R, m.C, r, c, fracs.Text(x), e, fault)
				}
			}
		}
	}
}

// misfit returns the error of vectors for a matrix.
func misfit(long, other bool) api.Errno {
	if long {
		return api.ErrLimit
	}
	if other {
		return api.ErrArg
	}
	return api.OK
}

// R3: a nil vector and an empty one are the same.
func TestNoVectors(t *testing.T) {
	for _, none := range []vecs.Vec{nil, {}} {
		v, e := mats.Apply(mats.Mat{R: 2}, none)
		wantVec(t, "Apply", v, e, rats(vec("0 0")))
		v, e = mats.Apply(mats.Mat{}, none)
		wantVec(t, "Apply", v, e, nil)
		x, e := mats.Form(mats.Mat{C: 2}, none, vecs.Of(1, 2))
		wantNumber(t, "Form", x, e, new(big.Rat))
		x, e = mats.Form(mats.Mat{R: 2}, vecs.Of(1, 2), none)
		wantNumber(t, "Form", x, e, new(big.Rat))
		m, e := mats.Outer(none, vecs.Of(1, 2))
		want(t, "Outer", m, e, table{c: 2})
		m, e = mats.Diag(none)
		want(t, "Diag", m, e, table{})
		v, e = mats.Apply(mat(1, 1, "1"), none)
		wantVecFault(t, "Apply", v, e, api.ErrArg)
	}
}
