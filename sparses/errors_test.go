package sparses_test

import (
	"slices"
	"testing"

	"gusset/api"
	"gusset/fracs"
	"gusset/mats"
	"gusset/sparses"
	"gusset/vecs"
)

// single is a function of one matrix that returns one.
type single struct {
	what string
	of   func(s sparses.Sparse) (sparses.Sparse, api.Errno)
}

// column returns v as a matrix of one column.
func column(v vecs.Vec, e api.Errno) (sparses.Sparse, api.Errno) {
	if len(v) == 0 {
		return sparses.Sparse{}, e
	}
	return thin(mats.Mat{R: len(v), C: 1, A: v}), e
}

// number returns x as a matrix, which is the empty one if x is 0.
func number(x fracs.Frac, e api.Errno) (sparses.Sparse, api.Errno) {
	if x == zero {
		return sparses.Sparse{}, e
	}
	return column(vecs.Vec{x}, e)
}

// singles returns the functions of one matrix, with arguments beside it that are wrong for most matrices.
func singles() []single {
	v, w := vecs.Of(1, 2), make(vecs.Vec, 2049)
	many := make([]int, 2049)
	return []single{
		{"Turn", sparses.Turn},
		{"Scale", func(s sparses.Sparse) (sparses.Sparse, api.Errno) { return sparses.Scale(read("2/3"), s) }},
		{"Scale 0", func(s sparses.Sparse) (sparses.Sparse, api.Errno) { return sparses.Scale(zero, s) }},
		{"Apply", func(s sparses.Sparse) (sparses.Sparse, api.Errno) { return column(sparses.Apply(s, v)) }},
		{"Apply to a long vector", func(s sparses.Sparse) (sparses.Sparse, api.Errno) { return column(sparses.Apply(s, w)) }},
		{"Form", func(s sparses.Sparse) (sparses.Sparse, api.Errno) { return number(sparses.Form(s, v, v)) }},
		{"Form of a long vector", func(s sparses.Sparse) (sparses.Sparse, api.Errno) { return number(sparses.Form(s, w, v)) }},
		{"Form to a long vector", func(s sparses.Sparse) (sparses.Sparse, api.Errno) { return number(sparses.Form(s, v, w)) }},
		{"Part of nothing", func(s sparses.Sparse) (sparses.Sparse, api.Errno) { return sparses.Part(s, nil, nil) }},
		{"Part", func(s sparses.Sparse) (sparses.Sparse, api.Errno) { return sparses.Part(s, []int{0}, []int{0}) }},
		{"Part outside", func(s sparses.Sparse) (sparses.Sparse, api.Errno) { return sparses.Part(s, []int{-1}, nil) }},
		{"Part of many rows", func(s sparses.Sparse) (sparses.Sparse, api.Errno) { return sparses.Part(s, many, []int{5000}) }},
		{"Part of many columns", func(s sparses.Sparse) (sparses.Sparse, api.Errno) { return sparses.Part(s, []int{5000}, many) }},
	}
}

// The section Errors: that of the matrix comes before those of what is beside it.
func TestFaultsOfOne(t *testing.T) {
	for _, f := range singles() {
		for _, x := range invalids() {
			s, e := f.of(x.s)
			wantFault(t, f.what+" of "+shown(x.s), s, e, x.fault)
		}
	}
}

// The section Errors: that of the first matrix comes first, that of the second next, and then different sizes.
func TestFaultsOfTwo(t *testing.T) {
	for _, f := range []struct {
		what string
		of   func(a, b sparses.Sparse) (sparses.Sparse, api.Errno)
	}{{"Add", sparses.Add}, {"Mul", sparses.Mul}} {
		for _, x := range invalids() {
			for _, y := range invalids() {
				s, e := f.of(x.s, y.s)
				wantFault(t, f.what, s, e, x.fault)
			}
			for _, size := range sizes() {
				valid := thin(family(size[0], size[1])[1])
				s, e := f.of(x.s, valid)
				wantFault(t, f.what, s, e, x.fault)
				s, e = f.of(valid, x.s)
				wantFault(t, f.what, s, e, x.fault)
			}
		}
	}
}

// P16.4: Add and Mul of matrices whose sizes do not match.
func TestSizes(t *testing.T) {
	list := append(sizes(), [2]int{4, 4}, [2]int{1, 4}, [2]int{2048, 0}, [2]int{0, 2048}, [2]int{2047, 0})
	for i, p := range list {
		for k, q := range list {
			a, b := none(p[0], p[1]), none(q[0], q[1])
			s, e := sparses.Add(thin(a), thin(b))
			if i == k {
				want(t, "Add", s, e, a)
			} else {
				wantFault(t, "Add", s, e, api.ErrArg)
			}
			s, e = sparses.Mul(thin(a), thin(b))
			if p[1] == q[0] && p[0]*q[1] < 10000 {
				want(t, "Mul", s, e, none(p[0], q[1]))
			} else if p[1] != q[0] {
				wantFault(t, "Mul", s, e, api.ErrArg)
			}
		}
	}
}

// P16.4: vectors that are too long, or do not fit. The former come first.
func TestVectorFaults(t *testing.T) {
	for _, size := range append(sizes(), [2]int{2048, 1}, [2]int{1, 2048}) {
		m := none(size[0], size[1])
		s := thin(m)
		lengths := []int{0, 1, 2, 3, 4, 5, 7, 2047, 2048, 2049, 2050, 4096}
		for _, c := range lengths {
			v, e := sparses.Apply(s, make(vecs.Vec, c))
			w, f := mats.Apply(m, make(vecs.Vec, c))
			if fault := misfit(c > 2048, c != m.C); fault != api.OK {
				wantVecFault(t, "Apply", v, e, fault)
			} else {
				wantVec(t, "Apply", v, e, w)
			}
			if e != f {
				t.Fatalf("Apply of %d by %d to %d elements: error %d, and %d of the dense form", m.R, m.C, c, e, f)
			}
			for _, r := range lengths {
				x, e := sparses.Form(s, long(r), long(c))
				_, f := mats.Form(m, long(r), long(c))
				if fault := misfit(r > 2048 || c > 2048, r != m.R || c != m.C); x != zero || e != fault || e != f {
					t.Fatalf("Form of %d by %d with vectors of %d and %d: %s, error %d, want %d", m.R, m.C, r, c, fracs.Text(x), e, fault)
				}
			}
		}
	}
}

// misfit returns the error of vectors for a matrix.
func misfit(long, other bool) api.Errno {
	if long {
		return api.ErrLimit
	}
	if other {
		return api.ErrArg
	}
	return api.OK
}

// P16.4: Part with indices out of range, and with too many of them. The latter come first.
func TestPartFaults(t *testing.T) {
	for _, size := range sizes() {
		m := family(size[0], size[1])[1]
		s := thin(m)
		for _, i := range beyond(m.R) {
			for _, cols := range [][]int{nil, upTo(m.C), beyond(m.C)} {
				part, e := sparses.Part(s, append(upTo(m.R), i), cols)
				wantFault(t, "Part", part, e, api.ErrArg)
				part, e = sparses.Part(s, append([]int{i}, upTo(m.R)...), cols)
				wantFault(t, "Part", part, e, api.ErrArg)
			}
		}
		for _, k := range beyond(m.C) {
			part, e := sparses.Part(s, nil, append(upTo(m.C), k))
			wantFault(t, "Part", part, e, api.ErrArg)
			part, e = sparses.Part(s, upTo(m.R), append([]int{k}, upTo(m.C)...))
			wantFault(t, "Part", part, e, api.ErrArg)
		}
		for _, l := range [][]int{nil, {0}, {-1}, {2048}, make([]int, 2049)} {
			part, e := sparses.Part(s, make([]int, 2049), l)
			wantFault(t, "Part of 2049 rows", part, e, api.ErrLimit)
			part, e = sparses.Part(s, l, slices.Repeat([]int{-1}, 2049))
			wantFault(t, "Part of 2049 columns", part, e, api.ErrLimit)
		}
	}
	part, e := sparses.Part(thin(mat(2, 3, "1 2 3 4 5 6")), []int{2}, []int{2})
	wantFault(t, "Part with a column's index as a row's", part, e, api.ErrArg)
}

// R3: no entries, no rows and no elements may be nil slices or empty ones.
func TestNil(t *testing.T) {
	for _, size := range [][2]int{{0, 0}, {0, 3}, {3, 0}, {2, 3}} {
		zeros := none(size[0], size[1])
		bare, empty := thin(zeros), sparses.Sparse{N: size[0], M: size[1], Rows: [][]sparses.Entry{}}
		if size[0] == 0 {
			bare.Rows = nil
		}
		for range size[0] {
			empty.Rows = append(empty.Rows, []sparses.Entry{})
		}
		for _, f := range singles() {
			a, e := f.of(bare)
			b, g := f.of(empty)
			if e != g || !alike(a, b) {
				t.Errorf("%s of %s: errors %d and %d", f.what, shown(bare), e, g)
			}
		}
		for _, a := range []sparses.Sparse{bare, empty} {
			for _, b := range []sparses.Sparse{bare, empty} {
				sum, e := sparses.Add(a, b)
				want(t, "Add", sum, e, zeros)
			}
			for _, v := range []vecs.Vec{nil, {}} {
				got, e := sparses.Apply(a, v)
				if size[1] == 0 {
					wantVec(t, "Apply", got, e, make(vecs.Vec, size[0]))
				} else {
					wantVecFault(t, "Apply", got, e, api.ErrArg)
				}
			}
		}
	}
}
