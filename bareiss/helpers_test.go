package bareiss_test

import (
	"math"
	"math/big"
	"slices"
	"strings"
	"testing"

	"gusset/api"
	"gusset/bareiss"
	"gusset/fracs"
	"gusset/ints"
	"gusset/mats"
)

// num returns the integer that s spells.
func num(s string) *big.Int {
	n, ok := new(big.Int).SetString(s, 10)
	if !ok {
		panic("no integer: " + s)
	}
	return n
}

// integer returns the Int of n.
func integer(n *big.Int) ints.Int {
	a, e := ints.Parse(n.String())
	if e != api.OK {
		panic("no Int for an integer in a test")
	}
	return a
}

// list returns the integers that s spells, with spaces between them.
func list(s string) []ints.Int {
	l := []ints.Int{}
	for _, word := range strings.Fields(s) {
		l = append(l, integer(num(word)))
	}
	return l
}

// whole returns the r by c matrix whose elements s spells, row by row.
func whole(r, c int, s string) bareiss.Whole { return bareiss.Whole{R: r, C: c, A: list(s)} }

// blank returns the r by c zero matrix.
func blank(r, c int) bareiss.Whole { return bareiss.Whole{R: r, C: c, A: make([]ints.Int, r*c)} }

// table is a matrix as the tests compute with it: its rows, of c elements each.
type table struct {
	c    int
	rows [][]*big.Int
}

// fill returns the r by c table whose elements at computes.
func fill(r, c int, at func(i, k int) *big.Int) table {
	rows := make([][]*big.Int, r)
	for i := range rows {
		for k := range c {
			rows[i] = append(rows[i], at(i, k))
		}
	}
	return table{c, rows}
}

// nums returns the elements of l.
func nums(l []ints.Int) []*big.Int {
	made := []*big.Int{}
	for _, x := range l {
		made = append(made, num(ints.Text(x)))
	}
	return made
}

// tableOf returns the elements of m.
func tableOf(m bareiss.Whole) table {
	l := nums(m.A)
	return fill(m.R, m.C, func(i, k int) *big.Int { return l[i*m.C+k] })
}

// columnOf returns the elements of l, one below the other.
func columnOf(l []ints.Int) table { return tableOf(bareiss.Whole{R: len(l), C: 1, A: l}) }

// wholeOf returns the matrix with the elements of a.
func wholeOf(a table) bareiss.Whole {
	m := blank(len(a.rows), a.c)
	for i, x := range slices.Concat(a.rows...) {
		m.A[i] = integer(x)
	}
	return m
}

// times returns the product of a and b.
func times(a, b *big.Int) *big.Int { return new(big.Int).Mul(a, b) }

// diagonal returns the n by n matrix that is x times the identity.
func diagonal(n int, x *big.Int) table {
	return fill(n, n, func(i, k int) *big.Int {
		if i == k {
			return x
		}
		return new(big.Int)
	})
}

// product returns the product of a and b.
func product(a, b table) table {
	return fill(len(a.rows), b.c, func(i, k int) *big.Int {
		sum := new(big.Int)
		for j := range a.c {
			sum.Add(sum, times(a.rows[i][j], b.rows[j][k]))
		}
		return sum
	})
}

// part returns the elements of a in some rows and columns.
func part(a table, rows, cols []int) table {
	return fill(len(rows), len(cols), func(i, k int) *big.Int { return a.rows[rows[i]][cols[k]] })
}

// same reports whether a and b have the same size and elements.
func same(a, b table) bool {
	equal := func(x, y *big.Int) bool { return x.Cmp(y) == 0 }
	return a.c == b.c && slices.EqualFunc(a.rows, b.rows, func(x, y []*big.Int) bool { return slices.EqualFunc(x, y, equal) })
}

// det returns the determinant of a by its definition: a sum over permutations.
func det(a table) *big.Int {
	sum := new(big.Int)
	permute(len(a.rows), func(p []int, sign int64) {
		term := big.NewInt(sign)
		for i, k := range p {
			term.Mul(term, a.rows[i][k])
		}
		sum.Add(sum, term)
	})
	return sum
}

// permute calls take with each permutation of n indices and its sign.
func permute(n int, take func(p []int, sign int64)) {
	p := count(n)
	var from func(i int, sign int64)
	from = func(i int, sign int64) {
		if i == n {
			take(p, sign)
			return
		}
		for k := i; k < n; k++ {
			s := sign
			if k != i {
				s = -sign
			}
			p[i], p[k] = p[k], p[i]
			from(i+1, s)
			p[i], p[k] = p[k], p[i]
		}
	}
	from(0, 1)
}

// count returns the first n indices.
func count(n int) []int {
	l := make([]int, n)
	for i := range l {
		l[i] = i
	}
	return l
}

// but returns the first n indices without i.
func but(n, i int) []int { return slices.Delete(count(n), i, i+1) }

// stage returns the stage s of a by its definition.
func stage(a table, s int) table {
	return fill(len(a.rows)-s, a.c-s, func(i, k int) *big.Int {
		return det(part(a, append(count(s), s+i), append(count(s), s+k)))
	})
}

// good returns a result that came without an error.
func good[T any](t *testing.T) func(x T, e api.Errno) T {
	return func(x T, e api.Errno) T {
		t.Helper()
		if e != api.OK {
			t.Fatalf("error %d", e)
		}
		return x
	}
}

// series is a sequence of numbers that is the same in each run.
type series struct{ state uint64 }

func (s *series) next() uint64 {
	s.state ^= s.state << 13
	s.state ^= s.state >> 7
	s.state ^= s.state << 17
	return s.state * 0x2545f4914f6cdd1d
}

// below returns a number from 0 to n - 1.
func (s *series) below(n int) int { return int(s.next() >> 1 % uint64(n)) }

// integers returns n integers of either sign, some of them 0.
func (s *series) integers(n int) []ints.Int {
	l := make([]ints.Int, n)
	for i := range l {
		l[i] = ints.Of(int64(s.below(13) - 6))
	}
	return l
}

// whole returns an r by c matrix of such integers.
func (s *series) whole(r, c int) bareiss.Whole {
	return bareiss.Whole{R: r, C: c, A: s.integers(r * c)}
}

// few returns an r by c matrix of 0, most often, 1 and -1.
func (s *series) few(r, c int) bareiss.Whole {
	m := blank(r, c)
	for i := range m.A {
		m.A[i] = ints.Of(int64(s.below(2) * (s.below(3) - 1)))
	}
	return m
}

// low returns an r by c matrix whose rank is at most n.
func (s *series) low(r, c, n int) bareiss.Whole {
	return wholeOf(product(tableOf(s.whole(r, n)), tableOf(s.whole(n, c))))
}

// flat returns an r by c matrix whose first n rows and columns have a rank of at most m.
func (s *series) flat(r, c, n, m int) bareiss.Whole {
	a := s.whole(r, c)
	corner := s.low(n, n, m)
	for i := range n {
		copy(a.A[i*c:], corner.A[i*n:(i+1)*n])
	}
	return a
}

// family returns r by c matrices: 0, some of each rank, some whose first rows and columns are singular, one with zeros
// in its first column, and one with long numbers.
func family(r, c int) []bareiss.Whole {
	s := &series{uint64(r*31+c) + 1511}
	l := []bareiss.Whole{blank(r, c), s.whole(r, c), s.whole(r, c)}
	for n := 1; n <= min(r, c); n++ {
		l = append(l, s.low(r, c, n))
		for m := range n {
			l = append(l, s.flat(r, c, n, m))
		}
	}
	for range 12 {
		l = append(l, s.few(r, c))
	}
	if r*c > 0 {
		late, huge := s.whole(r, c), s.whole(r, c)
		for i := range r {
			late.A[i*c] = ints.Of(0)
		}
		huge.A[r*c/2] = integer(num("-340282366920938463463374607431768211455"))
		l = append(l, late, huge)
	}
	return l
}

// columns returns lists of n integers: 0, and others.
func columns(n int) [][]ints.Int {
	s := &series{uint64(n) + 1523}
	return [][]ints.Int{make([]ints.Int, n), s.integers(n), s.integers(n)}
}

// sizes are those of the matrices that most is tested with.
func sizes() [][2]int {
	return [][2]int{{0, 0}, {0, 1}, {1, 0}, {0, 4}, {3, 0}, {1, 1}, {1, 2}, {2, 1}, {1, 5}, {4, 1}, {2, 2}, {2, 3}, {3, 2}, {3, 3}, {2, 5}, {5, 2}, {4, 4}, {5, 4}, {4, 5}, {5, 5}}
}

// all returns all r by c matrices of some integers.
func all(r, c int, of ...int64) []bareiss.Whole {
	l := []bareiss.Whole{{R: r, C: c}}
	for range r * c {
		longer := []bareiss.Whole{}
		for _, m := range l {
			for _, x := range of {
				longer = append(longer, bareiss.Whole{R: r, C: c, A: append(slices.Clone(m.A), ints.Of(x))})
			}
		}
		l = longer
	}
	return l
}

// many returns the matrices that most is tested with: those of family, and all small ones of a few integers.
func many() []bareiss.Whole {
	l := slices.Concat(all(1, 3, 0, 1, -2), all(3, 1, 0, 1, -2), all(2, 2, 0, 1, -1, 2), all(2, 3, 0, 1, -1), all(3, 2, 0, 1, 2), all(3, 3, 0, 1))
	for _, s := range sizes() {
		l = append(l, family(s[0], s[1])...)
	}
	return l
}

// squares returns those of many that are square.
func squares() []bareiss.Whole {
	return slices.DeleteFunc(many(), func(m bareiss.Whole) bool { return m.R != m.C })
}

// fraction returns the fraction that s spells.
func fraction(s string) fracs.Frac {
	x, e := fracs.Parse(s)
	if e != api.OK {
		panic("no fraction: " + s)
	}
	return x
}

// mat returns the r by c matrix whose elements s spells, row by row.
func mat(r, c int, s string) mats.Mat {
	m := mats.Mat{R: r, C: c}
	for _, word := range strings.Fields(s) {
		m.A = append(m.A, fraction(word))
	}
	return m
}

// mixed returns matrices of fractions: of each size one of integers, and some with denominators that have common
// divisors.
func mixed() []mats.Mat {
	s := &series{1531}
	l := []mats.Mat{mat(1, 2, "1/340282366920938463463374607431768211456 1/3"), mat(2, 2, "-5/6 0 0 0"), mat(1, 3, "7/12 -7/18 1/30")}
	for _, size := range sizes() {
		for most := 1; most <= 13; most += 4 {
			m := mats.Mat{R: size[0], C: size[1]}
			for range size[0] * size[1] {
				x, _ := fracs.Of(int64(s.below(25)-12), int64(1+s.below(most)))
				m.A = append(m.A, x)
			}
			l = append(l, m)
		}
	}
	return l
}

// invalid is the size of a matrix that may not be, its number of elements, and why.
type invalid struct {
	r, c, n int
	fault   api.Errno
}

// whole and mat return such a matrix.
func (i invalid) whole() bareiss.Whole {
	return bareiss.Whole{R: i.r, C: i.c, A: make([]ints.Int, i.n)}
}
func (i invalid) mat() mats.Mat { return mats.Mat{R: i.r, C: i.c, A: make([]fracs.Frac, i.n)} }

// invalids returns matrices that may not be.
func invalids() []invalid {
	return []invalid{
		{-1, 0, 0, api.ErrArg}, {0, -1, 0, api.ErrArg}, {-1, -1, 1, api.ErrArg}, {-2, 2, 4, api.ErrArg}, {-1, 2049, 0, api.ErrArg},
		{2049, -1, 0, api.ErrArg}, {math.MinInt, math.MaxInt, 0, api.ErrArg}, {2, math.MinInt, 0, api.ErrArg}, {math.MinInt, 2, 0, api.ErrArg},
		{2, 2, 0, api.ErrArg}, {2, 2, 3, api.ErrArg}, {2, 2, 5, api.ErrArg}, {0, 0, 1, api.ErrArg}, {0, 3, 3, api.ErrArg}, {3, 0, 1, api.ErrArg},
		{1, 2, 1, api.ErrArg}, {2048, 2048, 0, api.ErrArg}, {1, 2048, 2049, api.ErrArg}, {2048, 1, 2047, api.ErrArg},
		{2049, 0, 0, api.ErrLimit}, {0, 2049, 0, api.ErrLimit}, {2049, 1, 2049, api.ErrLimit}, {1, 2049, 2049, api.ErrLimit},
		{2049, 2049, 1, api.ErrLimit}, {math.MaxInt, math.MaxInt, 1, api.ErrLimit}, {1 << 32, 1 << 32, 0, api.ErrLimit}, {math.MaxInt, 0, 0, api.ErrLimit},
	}
}
