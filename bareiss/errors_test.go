package bareiss_test

import (
	"math"
	"testing"

	"gusset/api"
	"gusset/bareiss"
	"gusset/ints"
	"gusset/mats"
)

// outcome is what a function returned, as far as its errors are concerned.
type outcome struct {
	e     api.Errno
	items int // what came with the error: elements, rows, numbers
}

// size counts what there is in a matrix.
func size(m bareiss.Whole) int { return m.R + m.C + len(m.A) }

// number counts a result that is a number.
func number(x ints.Int) int {
	if x != (ints.Int{}) {
		return 1
	}
	return 0
}

// matrices calls all functions that take a matrix alone, those that need a square one at the end.
func matrices(m bareiss.Whole) []outcome {
	a, e0 := bareiss.Frac(m)
	bound, e1 := bareiss.Bound(m)
	d, e2 := bareiss.Det(m)
	adjugate, e3 := bareiss.Adjugate(m)
	return []outcome{{e0, a.R + a.C + len(a.A)}, {e1, number(bound)}, {e2, number(d)}, {e3, size(adjugate)}}
}

// stageOf calls Stage.
func stageOf(m bareiss.Whole, s int) outcome {
	x, e := bareiss.Stage(m, s)
	return outcome{e, size(x)}
}

// cramer calls Cramer.
func cramer(m bareiss.Whole, b []ints.Int) outcome {
	d, l, e := bareiss.Cramer(m, b)
	return outcome{e, number(d) + len(l)}
}

// wantFault fails unless all of l are the error, and nothing came with it.
func wantFault(t *testing.T, what string, fault api.Errno, l ...outcome) {
	t.Helper()
	for i, o := range l {
		if o.e != fault || o.items != 0 {
			t.Errorf("%s, function %d: error %d with %d items, want error %d", what, i, o.e, o.items, fault)
		}
	}
}

// The error of the matrix comes first, whatever else there is.
func TestInvalidMatrices(t *testing.T) {
	for _, c := range invalids() {
		what, m := "a matrix that may not be", c.whole()
		wantFault(t, what, c.fault, matrices(m)...)
		for _, s := range []int{0, 1, -1, 2049, 5000, math.MinInt, math.MaxInt} {
			wantFault(t, what, c.fault, stageOf(m, s))
		}
		for _, n := range []int{0, 1, 2, 2048, 2049, 2050} {
			wantFault(t, what, c.fault, cramer(m, make([]ints.Int, n)))
		}
		x, by, e := bareiss.Clear(c.mat())
		wantFault(t, what, c.fault, outcome{e, size(x) + len(by)})
	}
}

// A stage is not negative, and at most the number of rows and of columns.
func TestStageErrors(t *testing.T) {
	for _, m := range []bareiss.Whole{{}, blank(0, 3), blank(3, 0), whole(1, 1, "5"), whole(2, 3, "1 2 3 4 5 6"), whole(3, 2, "1 2 3 4 5 6"), whole(2, 2, "1 2 3 4")} {
		least := min(m.R, m.C)
		for _, s := range []int{-1, -2, -least - 1, math.MinInt, least + 1, max(m.R, m.C) + 1, m.R*m.C + 1, 2048, 2049, math.MaxInt} {
			wantFault(t, bareiss.Text(m), api.ErrArg, stageOf(m, s))
		}
		for _, s := range []int{0, least} {
			if o := stageOf(m, s); o.e != api.OK {
				t.Errorf("stage %d of %s: error %d", s, bareiss.Text(m), o.e)
			}
		}
	}
}

// Only square matrices have determinants and adjugates, and only with them Cramer looks at anything else.
func TestNotSquare(t *testing.T) {
	for _, m := range []bareiss.Whole{blank(0, 1), blank(1, 0), blank(0, 2048), blank(2048, 0), whole(1, 2, "1 2"), whole(2, 1, "1 2"), whole(2, 3, "1 0 0 0 1 0"), blank(3, 2), blank(2047, 2)} {
		wantFault(t, bareiss.Text(m), api.ErrArg, matrices(m)[2:]...)
		for _, n := range []int{0, 1, 2, 3, m.R, m.C, 2049} {
			wantFault(t, bareiss.Text(m), api.ErrArg, cramer(m, make([]ints.Int, n)))
		}
	}
}

// A right-hand side of another length is ErrArg, for singular matrices too; with the right length they are ErrSingular.
func TestCramerErrors(t *testing.T) {
	for _, m := range []bareiss.Whole{{}, whole(1, 1, "3"), blank(1, 1), whole(2, 2, "1 2 3 4"), whole(2, 2, "1 2 2 4"), blank(3, 3)} {
		for _, n := range []int{0, 1, 2, 3, 4, 2048, 2049, 5000} {
			if n != m.R {
				wantFault(t, bareiss.Text(m), api.ErrArg, cramer(m, make([]ints.Int, n)))
			}
		}
	}
	for _, m := range []bareiss.Whole{blank(1, 1), whole(2, 2, "1 2 2 4"), whole(2, 2, "0 0 1 1"), whole(3, 3, "1 2 3 4 5 6 7 8 9"), blank(3, 3), blank(30, 30)} {
		for _, b := range columns(m.R) {
			wantFault(t, bareiss.Text(m), api.ErrSingular, cramer(m, b))
		}
	}
}

// R3: nil and empty slices are the same argument.
func TestNil(t *testing.T) {
	for _, m := range []bareiss.Whole{{}, {C: 3}, {R: 3}} {
		empty := bareiss.Whole{R: m.R, C: m.C, A: []ints.Int{}}
		a, b := append(matrices(m), stageOf(m, 0), cramer(m, nil)), append(matrices(empty), stageOf(empty, 0), cramer(empty, []ints.Int{}))
		for i := range a {
			if a[i] != b[i] {
				t.Errorf("%d by %d, function %d: %v and %v", m.R, m.C, i, a[i], b[i])
			}
		}
	}
	if d, l, e := bareiss.Cramer(bareiss.Whole{}, []ints.Int{}); d != ints.Of(1) || len(l) != 0 || e != api.OK {
		t.Errorf("Cramer without rows: %s, %v, error %d", ints.Text(d), l, e)
	}
	if x, by, e := bareiss.Clear(mats.Mat{}); size(x) != 0 || len(by) != 0 || e != api.OK {
		t.Errorf("Clear without rows: %v, %v, error %d", x, by, e)
	}
}
