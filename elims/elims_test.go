package elims_test

import (
	"math/big"
	"slices"
	"testing"

	"gusset/api"
	"gusset/elims"
	"gusset/fracs"
	"gusset/mats"
	"gusset/vecs"
)

// The examples of the chapter.
func TestExamples(t *testing.T) {
	m := mat(2, 3, "1 2 3 2 4 7")
	r, pivots, e := elims.Reduce(m)
	if mats.Text(r) != "[1 2 0] [0 0 1]" || !slices.Equal(pivots, []int{0, 2}) || e != api.OK {
		t.Errorf("Reduce: %s, %v, error %d", mats.Text(r), pivots, e)
	}
	if n, e := elims.Rank(m); n != 2 || e != api.OK {
		t.Errorf("Rank: %d, error %d", n, e)
	}
	if l, e := elims.Kernel(m); len(l) != 1 || vecs.Text(l[0]) != "[-2 1 0]" || e != api.OK {
		t.Errorf("Kernel: %v, error %d", l, e)
	}
	if s, e := elims.Solve(m, vec("1 3")); vecs.Text(s.X) != "[-2 0 1]" || len(s.Kernel) != 1 || vecs.Text(s.Kernel[0]) != "[-2 1 0]" || e != api.OK {
		t.Errorf("Solve: %v, error %d", s, e)
	}
	if _, e := elims.Solve(mat(2, 2, "1 2 2 4"), vec("1 3")); e != api.ErrSingular {
		t.Errorf("Solve: error %d", e)
	}
	if y, e := elims.Against(mat(2, 2, "1 2 2 4"), vec("1 3")); vecs.Text(y) != "[-2 1]" || e != api.OK {
		t.Errorf("Against: %s, error %d", vecs.Text(y), e)
	}
	square := mat(2, 2, "1 2 3 4")
	if x, e := elims.Det(square); x != fracs.Int(-2) || e != api.OK {
		t.Errorf("Det: %s, error %d", fracs.Text(x), e)
	}
	if n, e := elims.Inverse(square); mats.Text(n) != "[-2 1] [3/2 -1/2]" || e != api.OK {
		t.Errorf("Inverse: %s, error %d", mats.Text(n), e)
	}
	if x, e := elims.Minor(square, 1); x != fracs.Int(1) || e != api.OK {
		t.Errorf("Minor: %s, error %d", fracs.Text(x), e)
	}
}

// isReduced reports whether a is in reduced row echelon form with the given columns of its pivots.
func isReduced(a table, pivots []int) bool {
	for i, row := range a.rows {
		k := slices.IndexFunc(row, func(x *big.Rat) bool { return x.Sign() != 0 })
		if i >= len(pivots) {
			if k >= 0 {
				return false
			}
			continue
		}
		if k != pivots[i] || i > 0 && k <= pivots[i-1] {
			return false
		}
		for j, other := range a.rows { // the pivot is 1, and all else in its column 0
			if x := other[k]; j == i && x.Cmp(big.NewRat(1, 1)) != 0 || j != i && x.Sign() != 0 {
				return false
			}
		}
	}
	return len(pivots) <= len(a.rows)
}

// P14.1: the result is in reduced row echelon form, and has the row space of the matrix: as many pivots as the rank, and
// each row of the matrix is a sum of multiples of its rows, by the elements in the columns of the pivots.
func TestReduce(t *testing.T) {
	for _, m := range many() {
		r, pivots, e := elims.Reduce(m)
		a, reduced := tableOf(m), tableOf(r)
		if e != api.OK || r.R != m.R || r.C != m.C || !isReduced(reduced, pivots) {
			t.Fatalf("%s: %s with %v, error %d", mats.Text(m), mats.Text(r), pivots, e)
		}
		if len(pivots) != rank(a) {
			t.Fatalf("%s: pivots %v, rank %d", mats.Text(m), pivots, rank(a))
		}
		upper := table{m.C, reduced.rows[:len(pivots)]}
		if !same(product(part(a, upTo(m.R), pivots), upper), a) {
			t.Fatalf("%s: %s has another row space", mats.Text(m), mats.Text(r))
		}
		if n, e := elims.Rank(m); n != len(pivots) || e != api.OK {
			t.Fatalf("Rank of %s: %d, error %d", mats.Text(m), n, e)
		}
	}
}

// upTo returns the first n indices.
func upTo(n int) []int {
	l := make([]int, n)
	for i := range l {
		l[i] = i
	}
	return l
}

// P14.1: matrices of known forms, whose rows are swapped, multiplied, and added to each other.
func TestReduceLarge(t *testing.T) {
	s := &series{1433}
	for _, size := range [][3]int{{12, 9, 5}, {9, 14, 9}, {30, 30, 30}, {25, 40, 17}, {40, 20, 20}, {6, 100, 3}} {
		form, pivots := s.reduced(size[0], size[1], size[2])
		m := matOf(s.mixed(form))
		r, l, e := elims.Reduce(m)
		if e != api.OK || !same(tableOf(r), form) || !slices.Equal(l, pivots) {
			t.Fatalf("%v: pivots %v, want %v, error %d", size, l, pivots, e)
		}
		if n, e := elims.Rank(m); n != size[2] || e != api.OK {
			t.Fatalf("%v: rank %d, error %d", size, n, e)
		}
	}
}

// reduced returns an r by c table in reduced row echelon form with n pivots, and their columns.
func (s *series) reduced(r, c, n int) (table, []int) {
	pivots := upTo(c)
	for len(pivots) > n {
		k := s.below(len(pivots))
		pivots = slices.Delete(pivots, k, k+1)
	}
	return fill(r, c, func(i, k int) *big.Rat {
		if at, ok := slices.BinarySearch(pivots, k); ok && at == i {
			return big.NewRat(1, 1)
		} else if ok || i >= n || k < pivots[i] {
			return new(big.Rat)
		}
		return big.NewRat(int64(s.below(13)-6), int64(1+s.below(3)))
	}), pivots
}

// mixed returns a table with the row space of a: its rows are swapped, multiplied, and added to each other.
func (s *series) mixed(a table) table {
	b := fill(len(a.rows), a.c, func(i, k int) *big.Rat { return a.rows[i][k] })
	for range 4 * len(b.rows) {
		i, k := s.below(len(b.rows)), s.below(len(b.rows))
		b.rows[i], b.rows[k] = b.rows[k], b.rows[i]
		b.rows[i] = combined(big.NewRat(int64(1+s.below(3)), 2), b.rows[i], new(big.Rat), b.rows[i])
		if i != k {
			b.rows[i] = combined(big.NewRat(1, 1), b.rows[i], big.NewRat(int64(s.below(5)-2), 1), b.rows[k])
		}
	}
	return b
}

// combined returns x a + y b.
func combined(x *big.Rat, a []*big.Rat, y *big.Rat, b []*big.Rat) []*big.Rat {
	l := make([]*big.Rat, len(a))
	for i := range l {
		l[i] = new(big.Rat).Add(times(x, a[i]), times(y, b[i]))
	}
	return l
}

// wantKernel fails unless l is the basis of the kernel of m that P14.2 names.
func wantKernel(t *testing.T, m mats.Mat, l []vecs.Vec, e api.Errno) {
	t.Helper()
	_, pivots, _ := elims.Reduce(m)
	free := slices.DeleteFunc(upTo(m.C), func(k int) bool { return slices.Contains(pivots, k) })
	if e != api.OK || len(l) != len(free) || cap(l) != len(l) {
		t.Fatalf("%s: %d vectors with the capacity %d, error %d, want %d", mats.Text(m), len(l), cap(l), e, len(free))
	}
	for i, v := range l {
		if len(v) != m.C || cap(v) != m.C || !isZero(product(tableOf(m), columnOf(v))) {
			t.Fatalf("%s: %s with the capacity %d is not in the kernel", mats.Text(m), vecs.Text(v), cap(v))
		}
		for j, k := range free {
			if w := map[bool]fracs.Frac{true: fracs.Int(1)}[i == j]; v[k] != w {
				t.Fatalf("%s: vector %d is %s, its element %d is not %s", mats.Text(m), i, vecs.Text(v), k, fracs.Text(w))
			}
		}
	}
}

// P14.2.
func TestKernel(t *testing.T) {
	for _, m := range many() {
		l, e := elims.Kernel(m)
		wantKernel(t, m, l, e)
	}
	s := &series{1439}
	for _, m := range []mats.Mat{s.low(12, 15, 9), s.low(15, 12, 9), s.low(3, 60, 2), s.matrix(60, 3), s.matrix(14, 15)} {
		l, e := elims.Kernel(m)
		wantKernel(t, m, l, e)
	}
}

// The sizes at their limits.
func TestLimits(t *testing.T) {
	for _, s := range [][2]int{{0, 2048}, {2048, 0}, {1, 2048}, {2048, 1}, {2048, 2}, {2, 2048}} {
		m := blank(s[0], s[1])
		n := min(s[0], s[1])
		for i := range n {
			m.A[(s[0]-1-i)*s[1]+s[1]-1-i] = fracs.Int(int64(i) - 3)
		}
		r, pivots, e := elims.Reduce(m)
		if e != api.OK || len(pivots) != n || r.R != s[0] || r.C != s[1] || len(r.A) != s[0]*s[1] || cap(r.A) != len(r.A) {
			t.Fatalf("%v: pivots %v, error %d", s, pivots, e)
		}
		for i, k := range pivots {
			if k != s[1]-n+i || r.A[i*s[1]+k] != fracs.Int(1) {
				t.Fatalf("%v: pivots %v", s, pivots)
			}
		}
		if l, e := elims.Kernel(m); e != api.OK || len(l) != s[1]-n {
			t.Fatalf("%v: %d vectors in the kernel, error %d", s, len(l), e)
		}
		if x, e := elims.Solve(m, make(vecs.Vec, s[0])); e != api.OK || len(x.X) != s[1] || len(x.Kernel) != s[1]-n {
			t.Fatalf("%v: a solution of %d elements, error %d", s, len(x.X), e)
		}
	}
}

// P14.5 at the limit: 2048 rows, mirrored, of which two elements are not 1.
func TestDetLimit(t *testing.T) {
	m := blank(2048, 2048)
	for i := range 2048 {
		m.A[i*2048+2047-i] = fracs.Int(1)
	}
	m.A[2047], m.A[2048+2046] = read("3/7"), read("-5")
	if x, e := elims.Det(m); e != api.OK || x != read("-15/7") {
		t.Fatalf("Det: %s, error %d", fracs.Text(x), e)
	}
	if n, e := elims.Rank(m); e != api.OK || n != 2048 {
		t.Fatalf("Rank: %d, error %d", n, e)
	}
	if x, e := elims.Minor(m, 2047); e != api.OK || x != (fracs.Frac{}) {
		t.Fatalf("Minor: %s, error %d", fracs.Text(x), e)
	}
}
