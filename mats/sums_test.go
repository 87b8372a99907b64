package mats_test

import (
	"math/big"
	"testing"

	"gusset/api"
	"gusset/fracs"
	"gusset/mats"
	"gusset/vecs"
)

// P13.3: sums, differences and multiples, element by element.
func TestSums(t *testing.T) {
	for _, s := range sizes() {
		for _, m := range family(s[0], s[1]) {
			a := tableOf(m)
			for _, n := range family(s[0], s[1]) {
				b := tableOf(n)
				sum, e := mats.Add(m, n)
				want(t, "Add", sum, e, fill(m.R, m.C, func(i, k int) *big.Rat { return new(big.Rat).Add(a.rows[i][k], b.rows[i][k]) }))
				less, e := mats.Sub(m, n)
				want(t, "Sub", less, e, fill(m.R, m.C, func(i, k int) *big.Rat { return new(big.Rat).Sub(a.rows[i][k], b.rows[i][k]) }))
			}
			for _, c := range numbers() {
				scaled, e := mats.Scale(c, m)
				want(t, "Scale", scaled, e, fill(m.R, m.C, func(i, k int) *big.Rat { return times(rat(fracs.Text(c)), a.rows[i][k]) }))
			}
		}
	}
}

// P13.5: the sum of all elements.
func TestSum(t *testing.T) {
	for _, s := range append(sizes(), [2]int{2048, 2}, [2]int{1, 2048}) {
		for _, m := range family(s[0], s[1]) {
			sum := new(big.Rat)
			for _, x := range rats(m.A) {
				sum.Add(sum, x)
			}
			wantNumber(t, "Sum", mats.Sum(m), api.OK, sum)
		}
	}
	for _, x := range invalids() {
		for i := range x.m.A {
			x.m.A[i] = fracs.Int(1)
		}
		wantNumber(t, "Sum of an invalid matrix", mats.Sum(x.m), api.OK, new(big.Rat))
	}
}

// single is a function of one matrix that returns one.
type single struct {
	what string
	of   func(a mats.Mat) (mats.Mat, api.Errno)
}

// singles returns what makes a matrix of one, or a vector or a number, which then stands as a matrix.
func singles() []single {
	v, w := vecs.Of(1, 2), long(2049)
	return []single{
		{"Scale", func(a mats.Mat) (mats.Mat, api.Errno) { return mats.Scale(read("2/3"), a) }},
		{"Scale 0", func(a mats.Mat) (mats.Mat, api.Errno) { return mats.Scale(fracs.Frac{}, a) }},
		{"Turn", mats.Turn},
		{"Apply", func(a mats.Mat) (mats.Mat, api.Errno) { return column(mats.Apply(a, v)) }},
		{"Apply to a long vector", func(a mats.Mat) (mats.Mat, api.Errno) { return column(mats.Apply(a, w)) }},
		{"Form", func(a mats.Mat) (mats.Mat, api.Errno) { return number(mats.Form(a, v, v)) }},
		{"Form of a long vector", func(a mats.Mat) (mats.Mat, api.Errno) { return number(mats.Form(a, w, v)) }},
		{"Form to a long vector", func(a mats.Mat) (mats.Mat, api.Errno) { return number(mats.Form(a, v, w)) }},
	}
}

// column returns v as a matrix, which shares its memory.
func column(v vecs.Vec, e api.Errno) (mats.Mat, api.Errno) {
	if len(v) == 0 {
		return mats.Mat{}, e
	}
	return mats.Mat{R: len(v), C: 1, A: v}, e
}

// number returns x as a matrix, which is the empty one if x is 0.
func number(x fracs.Frac, e api.Errno) (mats.Mat, api.Errno) {
	if x == (fracs.Frac{}) {
		return mats.Mat{}, e
	}
	return mats.Mat{R: 1, C: 1, A: []fracs.Frac{x}}, e
}

// The section Errors: that of a matrix comes before those of vectors.
func TestFaultsOfOne(t *testing.T) {
	for _, f := range singles() {
		for _, x := range invalids() {
			m, e := f.of(x.m)
			wantFault(t, f.what, m, e, x.fault)
		}
	}
}

// The section Errors: that of the first matrix comes first, that of the second next, and then different sizes.
func TestFaultsOfTwo(t *testing.T) {
	for _, f := range []struct {
		what string
		of   func(a, b mats.Mat) (mats.Mat, api.Errno)
	}{{"Add", mats.Add}, {"Sub", mats.Sub}, {"Mul", mats.Mul}} {
		for _, x := range invalids() {
			for _, y := range invalids() {
				m, e := f.of(x.m, y.m)
				wantFault(t, f.what, m, e, x.fault)
			}
			for _, s := range sizes() {
				for _, n := range family(s[0], s[1]) {
					m, e := f.of(x.m, n)
					wantFault(t, f.what, m, e, x.fault)
					m, e = f.of(n, x.m)
					wantFault(t, f.what, m, e, x.fault)
				}
			}
		}
	}
}

// P13.3: Add and Sub of matrices of different sizes.
func TestSizes(t *testing.T) {
	list := append(sizes(), [2]int{4, 4}, [2]int{1, 4}, [2]int{2048, 0}, [2]int{0, 2048})
	for i, s := range list {
		for k, u := range list {
			a, b := blank(s[0], s[1]), blank(u[0], u[1])
			if i == k {
				continue
			}
			m, e := mats.Add(a, b)
			wantFault(t, "Add", m, e, api.ErrArg)
			m, e = mats.Sub(a, b)
			wantFault(t, "Sub", m, e, api.ErrArg)
		}
	}
}

// R3: no elements may be a nil slice or an empty one.
func TestNoElements(t *testing.T) {
	none := []fracs.Frac{}
	for _, s := range [][2]int{{0, 0}, {0, 3}, {3, 0}, {2048, 0}} {
		for _, a := range []mats.Mat{{R: s[0], C: s[1]}, {R: s[0], C: s[1], A: none}} {
			for _, b := range []mats.Mat{{R: s[0], C: s[1]}, {R: s[0], C: s[1], A: none}} {
				m, e := mats.Add(a, b)
				want(t, "Add", m, e, tableOf(a))
				m, e = mats.Sub(a, b)
				want(t, "Sub", m, e, tableOf(a))
			}
			m, e := mats.Scale(read("5"), a)
			want(t, "Scale", m, e, tableOf(a))
			m, e = mats.Turn(a)
			want(t, "Turn", m, e, turned(tableOf(a)))
		}
	}
}
