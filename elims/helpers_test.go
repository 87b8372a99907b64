package elims_test

import (
	"math"
	"math/big"
	"slices"
	"strings"
	"testing"

	"gusset/api"
	"gusset/fracs"
	"gusset/mats"
	"gusset/vecs"
)

// rat returns the fraction that s spells.
func rat(s string) *big.Rat {
	r, ok := new(big.Rat).SetString(s)
	if !ok {
		panic("no fraction: " + s)
	}
	return r
}

// frac returns the Frac of r.
func frac(r *big.Rat) fracs.Frac {
	a, e := fracs.Parse(r.RatString())
	if e != api.OK {
		panic("no Frac for a fraction in a test")
	}
	return a
}

// read returns the Frac that s spells.
func read(s string) fracs.Frac { return frac(rat(s)) }

// vec returns the vector whose elements s spells, with spaces between them.
func vec(s string) vecs.Vec {
	v := vecs.Vec{}
	for _, word := range strings.Fields(s) {
		v = append(v, read(word))
	}
	return v
}

// mat returns the r by c matrix whose elements s spells, row by row.
func mat(r, c int, s string) mats.Mat { return mats.Mat{R: r, C: c, A: vec(s)} }

// blank returns the r by c zero matrix.
func blank(r, c int) mats.Mat { return mats.Mat{R: r, C: c, A: make([]fracs.Frac, r*c)} }

// table is a matrix as the tests compute with it: its rows, of c elements each.
type table struct {
	c    int
	rows [][]*big.Rat
}

// fill returns the r by c table whose elements at computes.
func fill(r, c int, at func(i, k int) *big.Rat) table {
	rows := make([][]*big.Rat, r)
	for i := range rows {
		for k := range c {
			rows[i] = append(rows[i], at(i, k))
		}
	}
	return table{c, rows}
}

// rats returns the elements of v.
func rats(v []fracs.Frac) []*big.Rat {
	l := []*big.Rat{}
	for _, x := range v {
		l = append(l, rat(fracs.Text(x)))
	}
	return l
}

// tableOf returns the elements of m.
func tableOf(m mats.Mat) table {
	l := rats(m.A)
	return fill(m.R, m.C, func(i, k int) *big.Rat { return l[i*m.C+k] })
}

// columnOf returns the elements of v, one below the other.
func columnOf(v vecs.Vec) table { return tableOf(mats.Mat{R: len(v), C: 1, A: v}) }

// matOf returns the matrix with the elements of a.
func matOf(a table) mats.Mat {
	m := blank(len(a.rows), a.c)
	for i, x := range slices.Concat(a.rows...) {
		m.A[i] = frac(x)
	}
	return m
}

// turned returns the transpose of a.
func turned(a table) table {
	return fill(a.c, len(a.rows), func(i, k int) *big.Rat { return a.rows[k][i] })
}

// one returns the n by n identity.
func one(n int) table {
	return fill(n, n, func(i, k int) *big.Rat {
		if i == k {
			return big.NewRat(1, 1)
		}
		return new(big.Rat)
	})
}

// times returns the product of a and b.
func times(a, b *big.Rat) *big.Rat { return new(big.Rat).Mul(a, b) }

// product returns the product of a and b.
func product(a, b table) table {
	return fill(len(a.rows), b.c, func(i, k int) *big.Rat {
		sum := new(big.Rat)
		for j := range a.c {
			sum.Add(sum, times(a.rows[i][j], b.rows[j][k]))
		}
		return sum
	})
}

// part returns the elements of a in some rows and columns.
func part(a table, rows, cols []int) table {
	return fill(len(rows), len(cols), func(i, k int) *big.Rat { return a.rows[rows[i]][cols[k]] })
}

// same reports whether a and b have the same size and elements.
func same(a, b table) bool {
	equal := func(x, y *big.Rat) bool { return x.Cmp(y) == 0 }
	return a.c == b.c && slices.EqualFunc(a.rows, b.rows, func(x, y []*big.Rat) bool { return slices.EqualFunc(x, y, equal) })
}

// isZero reports whether all elements of a are 0.
func isZero(a table) bool {
	return !slices.ContainsFunc(slices.Concat(a.rows...), func(x *big.Rat) bool { return x.Sign() != 0 })
}

// det returns the determinant of a by its definition: a sum over permutations.
func det(a table) *big.Rat {
	sum := new(big.Rat)
	permute(len(a.rows), func(p []int, sign int64) {
		term := big.NewRat(sign, 1)
		for i, k := range p {
			term.Mul(term, a.rows[i][k])
		}
		sum.Add(sum, term)
	})
	return sum
}

// permute calls take with each permutation of n indices and its sign.
func permute(n int, take func(p []int, sign int64)) {
	p := make([]int, n)
	for i := range p {
		p[i] = i
	}
	var from func(i int, sign int64)
	from = func(i int, sign int64) {
		if i == n {
			take(p, sign)
			return
		}
		for k := i; k < n; k++ {
			s := sign
			if k != i {
				s = -sign
			}
			p[i], p[k] = p[k], p[i]
			from(i+1, s)
			p[i], p[k] = p[k], p[i]
		}
	}
	from(0, 1)
}

// rank returns the rank of a as the greatest size of a square part whose determinant is not 0.
func rank(a table) int {
	for n := min(len(a.rows), a.c); n > 0; n-- {
		for _, rows := range choices(len(a.rows), n) {
			for _, cols := range choices(a.c, n) {
				if det(part(a, rows, cols)).Sign() != 0 {
					return n
				}
			}
		}
	}
	return 0
}

// choices returns all ways to choose n of most indices, in ascending order.
func choices(most, n int) [][]int {
	list := [][]int{}
	for set := range 1 << most {
		l := []int{}
		for i := range most {
			if set>>i&1 == 1 {
				l = append(l, i)
			}
		}
		if len(l) == n {
			list = append(list, l)
		}
	}
	return list
}

// good returns a result that came without an error.
func good[T any](t *testing.T) func(x T, e api.Errno) T {
	return func(x T, e api.Errno) T {
		t.Helper()
		if e != api.OK {
			t.Fatalf("error %d", e)
		}
		return x
	}
}

// series is a sequence of numbers that is the same in each run.
type series struct{ state uint64 }

func (s *series) next() uint64 {
	s.state ^= s.state << 13
	s.state ^= s.state >> 7
	s.state ^= s.state << 17
	return s.state * 0x2545f4914f6cdd1d
}

// below returns a number from 0 to n - 1.
func (s *series) below(n int) int { return int(s.next() >> 1 % uint64(n)) }

// vector returns a vector of n elements of either sign, often integers or 0.
func (s *series) vector(n int) vecs.Vec {
	v := make(vecs.Vec, n)
	for i := range v {
		v[i], _ = fracs.Of(int64(s.below(13)-6), int64(1+s.below(4)))
	}
	return v
}

// matrix returns an r by c matrix of such elements.
func (s *series) matrix(r, c int) mats.Mat { return mats.Mat{R: r, C: c, A: s.vector(r * c)} }

// low returns an r by c matrix whose rank is at most n.
func (s *series) low(r, c, n int) mats.Mat {
	return matOf(product(tableOf(s.matrix(r, n)), tableOf(s.matrix(n, c))))
}

// family returns r by c matrices: 0, some of each rank, one with zeros in its first column, and one with long numbers.
func family(r, c int) []mats.Mat {
	s := &series{uint64(r*31+c) + 1409}
	list := []mats.Mat{blank(r, c), s.matrix(r, c), s.matrix(r, c)}
	for n := 1; n <= min(r, c); n++ {
		list = append(list, s.low(r, c, n))
	}
	if r*c > 0 {
		late, huge := s.matrix(r, c), s.matrix(r, c)
		for i := range r {
			late.A[i*c] = read("0")
		}
		huge.A[r*c/2] = read("-340282366920938463463374607431768211455/2")
		list = append(list, late, huge)
	}
	return list
}

// vectors returns vectors of n elements: 0, and some of short numbers.
func vectors(n int) []vecs.Vec {
	s := &series{uint64(n) + 1423}
	return []vecs.Vec{make(vecs.Vec, n), s.vector(n), s.vector(n)}
}

// sizes are those of the matrices that most is tested with.
func sizes() [][2]int {
	return [][2]int{{0, 0}, {0, 1}, {1, 0}, {0, 4}, {3, 0}, {1, 1}, {1, 2}, {2, 1}, {1, 5}, {4, 1}, {2, 2}, {2, 3}, {3, 2}, {3, 3}, {2, 5}, {5, 2}, {4, 4}, {5, 4}, {4, 5}}
}

// all returns all r by c matrices of some integers.
func all(r, c int, l ...int64) []mats.Mat {
	list := []mats.Mat{{R: r, C: c}}
	for range r * c {
		longer := []mats.Mat{}
		for _, m := range list {
			for _, x := range l {
				longer = append(longer, mats.Mat{R: r, C: c, A: append(slices.Clone(m.A), fracs.Int(x))})
			}
		}
		list = longer
	}
	return list
}

// many returns the matrices that most is tested with: those of family, and all small ones of 0, 1 and -1 or 2.
func many() []mats.Mat {
	list := slices.Concat(all(1, 3, 0, 1, -2), all(3, 1, 0, 1, -2), all(2, 2, 0, 1, -1, 2), all(2, 3, 0, 1, -1), all(3, 2, 0, 1, 2), all(3, 3, 0, 1))
	for _, s := range sizes() {
		list = append(list, family(s[0], s[1])...)
	}
	return list
}

// invalid is a matrix that may not be, and why.
type invalid struct {
	m     mats.Mat
	fault api.Errno
}

// invalids returns matrices that may not be.
func invalids() []invalid {
	of := func(r, c, n int) mats.Mat { return mats.Mat{R: r, C: c, A: make([]fracs.Frac, n)} }
	list := []invalid{}
	for _, m := range []mats.Mat{
		of(-1, 0, 0), of(0, -1, 0), of(-1, -1, 1), of(-2, 2, 4), of(-1, 2049, 0), of(2049, -1, 0), of(math.MinInt, math.MaxInt, 0), of(2, math.MinInt, 0),
		of(2, 2, 0), of(2, 2, 3), of(2, 2, 5), of(0, 0, 1), of(0, 3, 3), of(3, 0, 1), of(1, 2, 1), of(2048, 2048, 0), of(1, 2048, 2049),
	} {
		list = append(list, invalid{m, api.ErrArg})
	}
	for _, m := range []mats.Mat{
		of(2049, 0, 0), of(0, 2049, 0), of(2049, 1, 2049), of(1, 2049, 2049), of(2049, 2049, 1), of(math.MaxInt, math.MaxInt, 1), of(1<<32, 1<<32, 0),
	} {
		list = append(list, invalid{m, api.ErrLimit})
	}
	return append(list, invalid{mats.Mat{R: 2, C: 2}, api.ErrArg}, invalid{mats.Mat{R: 2049}, api.ErrLimit}, invalid{mats.Mat{C: -1}, api.ErrArg})
}
