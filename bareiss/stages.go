package bareiss

import (
	"slices"

	"gusset/api"
	"gusset/ints"
)

// stage is a matrix in the course of its elimination. What the steps have made of it stands behind its first rows and
// columns, as many as there were steps.
//
// A step only multiplies a row by the quotient of two pivots if the row has a 0 below the pivot. Such a row is left as it
// is until its elements are needed: all the quotients together are the quotient of the last pivot and of the one that
// stands in divisors. So the many zeros of a sparse matrix save most of the work.
type stage struct {
	Whole
	done     int        // the number of steps
	pivot    ints.Int   // the last step's, or 1
	divisors []ints.Int // for each row, the pivot of the last step that changed it, or 1
}

// Stage returns a stage of minors.
func Stage(m Whole, s int) (Whole, api.Errno) {
	if e := Check(m); e != api.OK {
		return Whole{}, e
	}
	if s < 0 || s > m.R || s > m.C {
		return Whole{}, api.ErrArg
	}
	return minors(m, s), api.OK
}

// minors returns the stage n of m.
func minors(m Whole, n int) Whole {
	s := start(m)
	for s.done < n {
		// The first n rows and columns, where all that is left is 0, have a rank of only s.done. If n-1, this step is the
		// last, so that nothing will be divided by its pivot; if less, no minor with one more row and column is nonzero.
		if !s.lead(n) && s.done < n-1 {
			return blank(m.R-n, m.C-n)
		}
		s.step()
	}
	return s.rest()
}

// start returns the stage 0 of m.
func start(m Whole) *stage {
	one := ints.Of(1)
	return &stage{Whole: Whole{R: m.R, C: m.C, A: slices.Clone(m.A)}, pivot: one, divisors: slices.Repeat([]ints.Int{one}, m.R)}
}

// lead brings an element of the first n rows and columns that is not 0 to the pivot's place, or reports that all are 0.
func (s *stage) lead(n int) bool {
	for k := s.done; k < n; k++ {
		for i := s.done; i < n; i++ {
			if s.row(i)[k] != (ints.Int{}) {
				s.swapRows(s.done, i)
				s.swapColumns(s.done, k)
				return true
			}
		}
	}
	return false
}

// swapRows swaps two of the first n rows. The minors of stage n contain both, so they keep their signs if one of the
// rows changes its own.
func (s *stage) swapRows(i, j int) {
	if i == j {
		return
	}
	a, b := s.row(i), s.row(j)
	for k := s.done; k < s.C; k++ {
		a[k], b[k] = b[k], ints.Neg(a[k])
	}
	s.divisors[i], s.divisors[j] = s.divisors[j], s.divisors[i]
}

// swapColumns does so with columns.
func (s *stage) swapColumns(j, k int) {
	if j == k {
		return
	}
	for i := s.done; i < s.R; i++ {
		row := s.row(i)
		row[j], row[k] = row[k], ints.Neg(row[j])
	}
}

// step goes on to the next stage.
func (s *stage) step() {
	top := s.current(s.done)
	for i := s.done + 1; i < s.R; i++ {
		row := s.row(i)[s.done:]
		if row[0] != (ints.Int{}) {
			pass(row, top, s.divisors[i])
			s.divisors[i] = top[0]
		}
	}
	s.pivot = top[0]
	s.done++
}

// current returns what the row i has behind the columns of the steps, as it stands in this stage. It is asked once for
// each row: no step changes a pivot's row again.
func (s *stage) current(i int) []ints.Int {
	row := s.row(i)[s.done:]
	if s.divisors[i] != s.pivot {
		for k, x := range row {
			row[k] = quotient(ints.Mul(s.pivot, x), s.divisors[i])
		}
	}
	return row
}

// pass computes a row of the next stage from the pivot's and from one that stands in the stage with this divisor.
func pass(row, top []ints.Int, divisor ints.Int) {
	pivot, first := top[0], row[0]
	for k := 1; k < len(row); k++ {
		row[k] = quotient(ints.Sub(ints.Mul(pivot, row[k]), ints.Mul(first, top[k])), divisor)
	}
}

// quotient returns a divided by b, a divisor of it.
func quotient(a, b ints.Int) ints.Int {
	q, _, _ := ints.Div(a, b)
	return q
}

// rest returns the stage itself.
func (s *stage) rest() Whole {
	m := blank(s.R-s.done, s.C-s.done)
	for i := range m.R {
		copy(m.row(i), s.current(s.done+i))
	}
	return m
}
