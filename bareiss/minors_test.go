package bareiss_test

import (
	"math/big"
	"slices"
	"testing"

	"gusset/api"
	"gusset/bareiss"
	"gusset/ints"
)

// P15.2: all stages, by their definition.
func TestStage(t *testing.T) {
	for _, m := range many() {
		a := tableOf(m)
		for s := range min(m.R, m.C) + 1 {
			x := good[bareiss.Whole](t)(bareiss.Stage(m, s))
			if want := stage(a, s); x.R != m.R-s || x.C != m.C-s || !same(tableOf(x), want) {
				t.Fatalf("stage %d of %s: %s", s, bareiss.Text(m), bareiss.Text(x))
			}
		}
	}
}

// P15.2: the stages of a matrix whose first rows and columns have any rank, where the pivots are found late.
func TestStageOfSingular(t *testing.T) {
	s := &series{1543}
	for _, size := range [][2]int{{4, 4}, {5, 6}, {6, 5}, {6, 6}} {
		for n := 1; n <= min(size[0], size[1]); n++ {
			for rank := range n + 1 {
				m := s.flat(size[0], size[1], n, rank)
				x := good[bareiss.Whole](t)(bareiss.Stage(m, n))
				if want := stage(tableOf(m), n); !same(tableOf(x), want) {
					t.Fatalf("stage %d of %s: %s", n, bareiss.Text(m), bareiss.Text(x))
				}
			}
		}
	}
}

// P15.2: a rank of one less than the rows leaves minors that are not 0, one of two less leaves none.
func TestStageOfCorners(t *testing.T) {
	cases := []struct {
		m    bareiss.Whole
		s    int
		want string
	}{
		{whole(2, 2, "0 2 3 5"), 1, "[-6]"}, {whole(3, 3, "0 0 1 0 0 2 3 4 5"), 2, "[0]"}, {whole(3, 3, "0 1 2 0 3 5 4 6 7"), 2, "[-4]"},
		{whole(3, 3, "0 0 1 0 2 5 4 6 7"), 2, "[-8]"}, {whole(3, 3, "0 2 1 0 0 5 4 6 7"), 2, "[40]"}, {whole(3, 3, "0 0 1 2 0 5 4 6 7"), 2, "[12]"},
		{whole(3, 3, "1 2 3 2 4 7 5 6 8"), 2, "[4]"}, {whole(4, 4, "0 0 0 1 0 0 2 0 0 3 0 0 4 0 0 0"), 3, "[24]"}, {whole(4, 4, "0 0 0 1 0 0 2 0 0 3 0 0 4 0 0 0"), 2, "[0 0] [0 0]"},
		{whole(1, 3, "0 7 8"), 1, ""}, {whole(3, 1, "0 7 8"), 1, "[] []"}, {whole(2, 4, "0 0 7 8 0 0 9 1"), 1, "[0 0 0]"},
	}
	for _, c := range cases {
		x := good[bareiss.Whole](t)(bareiss.Stage(c.m, c.s))
		if s := bareiss.Text(x); s != c.want || x.R != c.m.R-c.s || x.C != c.m.C-c.s {
			t.Errorf("stage %d of %s: %q, want %q", c.s, bareiss.Text(c.m), s, c.want)
		}
	}
}

// P15.2: the determinant by its definition.
func TestDet(t *testing.T) {
	l := slices.Concat(squares(), family(6, 6), family(7, 7))
	for _, m := range l {
		if x := good[ints.Int](t)(bareiss.Det(m)); x != integer(det(tableOf(m))) {
			t.Fatalf("%s: %s", bareiss.Text(m), ints.Text(x))
		}
	}
	if x := good[ints.Int](t)(bareiss.Det(bareiss.Whole{})); x != ints.Of(1) {
		t.Errorf("without rows: %s", ints.Text(x))
	}
}

// P15.2: a determinant of known factors, whose rows and columns are mixed.
func TestLargeDet(t *testing.T) {
	s := &series{1549}
	for _, n := range []int{10, 25, 40} {
		low, high, want := s.whole(n, n), s.whole(n, n), big.NewInt(1)
		for i := range n {
			for k := range n {
				if k > i {
					low.A[i*n+k] = ints.Of(0)
				} else if k < i {
					high.A[i*n+k] = ints.Of(0)
				}
			}
			x := int64(1 + s.below(9))
			low.A[i*n+i], high.A[i*n+i] = ints.Of(1), ints.Of(-x)
			want = times(want, big.NewInt(-x))
		}
		a := product(tableOf(low), tableOf(high))
		for i := range n - 1 {
			k := i + 1 + s.below(n-1-i)
			a.rows[i], a.rows[k] = a.rows[k], a.rows[i]
			want.Neg(want)
		}
		if x := good[ints.Int](t)(bareiss.Det(wholeOf(a))); x != integer(want) {
			t.Fatalf("%d rows: %s, want %v", n, ints.Text(x), want)
		}
	}
}

// P15.2: as many rows and columns as there may be.
func TestLargestMatrices(t *testing.T) {
	const n = 2048
	m := blank(n, n)
	for i := range n {
		m.A[i*n+(n-1-i)] = ints.Of(-1)
	}
	m.A[n-1] = ints.Of(5)
	// 1024 swaps, and 2047 factors of -1
	if x := good[ints.Int](t)(bareiss.Det(m)); x != ints.Of(-5) {
		t.Errorf("determinant %s", ints.Text(x))
	}
	m.A[n-1] = ints.Of(0)
	if x := good[ints.Int](t)(bareiss.Det(m)); x != ints.Of(0) {
		t.Errorf("determinant %s of a matrix with a row of zeros", ints.Text(x))
	}
	if x := good[bareiss.Whole](t)(bareiss.Stage(blank(n, n), n)); x.R != 0 || x.C != 0 {
		t.Errorf("the last stage has %d rows and %d columns", x.R, x.C)
	}
	if x := good[bareiss.Whole](t)(bareiss.Stage(blank(n, 1), 0)); !bareiss.Same(x, blank(n, 1)) {
		t.Errorf("stage 0 has %d rows and %d columns", x.R, x.C)
	}
}

// P15.3: Cramer's determinants, by their definition.
func TestCramer(t *testing.T) {
	for _, m := range squares() {
		a := tableOf(m)
		for _, b := range columns(m.R) {
			d, l, e := bareiss.Cramer(m, b)
			if det(a).Sign() == 0 {
				if e != api.ErrSingular || d != ints.Of(0) || l != nil {
					t.Fatalf("%s: error %d", bareiss.Text(m), e)
				}
				continue
			}
			if e != api.OK || d != integer(det(a)) || len(l) != m.C {
				t.Fatalf("%s: %s with %d numbers, error %d", bareiss.Text(m), ints.Text(d), len(l), e)
			}
			column := columnOf(b)
			for j, x := range l {
				replaced := fill(m.R, m.C, func(i, k int) *big.Int {
					if k == j {
						return column.rows[i][0]
					}
					return a.rows[i][k]
				})
				if x != integer(det(replaced)) {
					t.Fatalf("%s and %v, column %d: %s", bareiss.Text(m), b, j, ints.Text(x))
				}
			}
		}
	}
}

// P15.3: the adjugate by its definition, of singular matrices too.
func TestAdjugate(t *testing.T) {
	for _, m := range squares() {
		a := tableOf(m)
		want := fill(m.R, m.R, func(i, k int) *big.Int {
			x := det(part(a, but(m.R, k), but(m.R, i)))
			if (i+k)%2 == 1 {
				x.Neg(x)
			}
			return x
		})
		if x := good[bareiss.Whole](t)(bareiss.Adjugate(m)); x.R != m.R || x.C != m.R || !same(tableOf(x), want) {
			t.Fatalf("%s: %s", bareiss.Text(m), bareiss.Text(x))
		}
	}
}
