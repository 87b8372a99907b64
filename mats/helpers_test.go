package mats_test

import (
	"math"
	"math/big"
	"slices"
	"strings"
	"testing"

	"gusset/api"
	"gusset/fracs"
	"gusset/mats"
	"gusset/vecs"
)

// rat returns the fraction that s spells.
func rat(s string) *big.Rat {
	r, ok := new(big.Rat).SetString(s)
	if !ok {
		panic("no fraction: " + s)
	}
	return r
}

// read returns the Frac that s spells.
func read(s string) fracs.Frac {
	a, e := fracs.Parse(rat(s).RatString())
	if e != api.OK {
		panic("no Frac for a fraction in a test")
	}
	return a
}

// vec returns the vector whose elements s spells, with spaces between them.
func vec(s string) vecs.Vec {
	v := vecs.Vec{}
	for _, word := range strings.Fields(s) {
		v = append(v, read(word))
	}
	return v
}

// mat returns the r by c matrix whose elements s spells, row by row.
func mat(r, c int, s string) mats.Mat { return mats.Mat{R: r, C: c, A: vec(s)} }

// blank returns the r by c zero matrix.
func blank(r, c int) mats.Mat { return mats.Mat{R: r, C: c, A: make([]fracs.Frac, r*c)} }

// long returns a vector of n elements, of which one out of seven is not 0.
func long(n int) vecs.Vec {
	v := make(vecs.Vec, n)
	for i := 0; i < n; i += 7 {
		v[i] = fracs.Int(int64(i%11 - 5))
	}
	return v
}

// rats returns the elements of v.
func rats(v []fracs.Frac) []*big.Rat {
	l := []*big.Rat{}
	for _, x := range v {
		l = append(l, rat(fracs.Text(x)))
	}
	return l
}

// table is a matrix as the tests compute with it: its rows, of c elements each.
type table struct {
	c    int
	rows [][]*big.Rat
}

// fill returns the r by c table whose elements at computes.
func fill(r, c int, at func(i, k int) *big.Rat) table {
	rows := make([][]*big.Rat, r)
	for i := range rows {
		for k := range c {
			rows[i] = append(rows[i], at(i, k))
		}
	}
	return table{c, rows}
}

// tableOf returns the elements of m.
func tableOf(m mats.Mat) table {
	l := rats(m.A)
	return fill(m.R, m.C, func(i, k int) *big.Rat { return l[i*m.C+k] })
}

// tableOfColumn returns the elements of v, one below the other.
func tableOfColumn(v vecs.Vec) table {
	return tableOf(mats.Mat{R: len(v), C: 1, A: v})
}

// turned returns the transpose of a.
func turned(a table) table {
	return fill(a.c, len(a.rows), func(i, k int) *big.Rat { return a.rows[k][i] })
}

// product returns the product of a and b.
func product(a, b table) table {
	return fill(len(a.rows), b.c, func(i, k int) *big.Rat {
		sum := new(big.Rat)
		for j := range a.c {
			sum.Add(sum, times(a.rows[i][j], b.rows[j][k]))
		}
		return sum
	})
}

// times returns the product of a and b.
func times(a, b *big.Rat) *big.Rat { return new(big.Rat).Mul(a, b) }

// flat returns the elements of a, row by row.
func flat(a table) []*big.Rat { return slices.Concat(a.rows...) }

// shown returns numbers as text, which is not that of vecs.Text.
func shown(l []*big.Rat) string {
	var words []string
	for _, r := range l {
		words = append(words, r.RatString())
	}
	if len(words) > 12 {
		words = append(words[:12], "..")
	}
	return "(" + strings.Join(words, ", ") + ")"
}

// equal reports whether a and b are the same numbers.
func equal(a, b []*big.Rat) bool {
	return slices.EqualFunc(a, b, func(x, y *big.Rat) bool { return x.Cmp(y) == 0 })
}

// want fails unless got is the matrix w with no room behind its elements, and e is OK.
func want(t *testing.T, what string, got mats.Mat, e api.Errno, w table) {
	t.Helper()
	if e != api.OK {
		t.Fatalf("%s: error %d, want %s", what, e, shown(flat(w)))
	}
	if got.R != len(w.rows) || got.C != w.c || !equal(rats(got.A), flat(w)) {
		t.Fatalf("%s: %d by %d %s, want %d by %d %s", what, got.R, got.C, shown(rats(got.A)), len(w.rows), w.c, shown(flat(w)))
	}
	if cap(got.A) != len(got.A) {
		t.Fatalf("%s: capacity %d of %d elements", what, cap(got.A), len(got.A))
	}
}

// wantVec fails unless got is the vector w with no room behind its elements, and e is OK.
func wantVec(t *testing.T, what string, got vecs.Vec, e api.Errno, w []*big.Rat) {
	t.Helper()
	if e != api.OK || !equal(rats(got), w) || cap(got) != len(got) {
		t.Fatalf("%s: %s, capacity %d, error %d, want %s", what, shown(rats(got)), cap(got), e, shown(w))
	}
}

// wantNumber fails unless got is r and e is OK.
func wantNumber(t *testing.T, what string, got fracs.Frac, e api.Errno, r *big.Rat) {
	t.Helper()
	if e != api.OK || fracs.Text(got) != r.RatString() {
		t.Fatalf("%s: %s, error %d, want %s", what, fracs.Text(got), e, r.RatString())
	}
}

// wantFault fails unless e is fault, and nothing came with it.
func wantFault(t *testing.T, what string, got mats.Mat, e, fault api.Errno) {
	t.Helper()
	if e != fault || got.R != 0 || got.C != 0 || len(got.A) != 0 {
		t.Fatalf("%s: error %d with %d by %d and %d elements, want error %d", what, e, got.R, got.C, len(got.A), fault)
	}
}

// wantVecFault fails unless e is fault, and no elements came with it.
func wantVecFault(t *testing.T, what string, got vecs.Vec, e, fault api.Errno) {
	t.Helper()
	if e != fault || len(got) != 0 {
		t.Fatalf("%s: error %d with %d elements, want error %d", what, e, len(got), fault)
	}
}

// good returns a result that came without an error.
func good[T any](t *testing.T) func(x T, e api.Errno) T {
	return func(x T, e api.Errno) T {
		t.Helper()
		if e != api.OK {
			t.Fatalf("error %d", e)
		}
		return x
	}
}

// series is a sequence of numbers that is the same in each run.
type series struct{ state uint64 }

func (s *series) next() uint64 {
	s.state ^= s.state << 13
	s.state ^= s.state >> 7
	s.state ^= s.state << 17
	return s.state * 0x2545f4914f6cdd1d
}

// below returns a number from 0 to n - 1.
func (s *series) below(n int) int { return int(s.next() >> 1 % uint64(n)) }

// vector returns a vector of n elements of either sign, often integers or 0.
func (s *series) vector(n int) vecs.Vec {
	v := make(vecs.Vec, n)
	for i := range v {
		v[i], _ = fracs.Of(int64(s.below(13)-6), int64(1+s.below(4)))
	}
	return v
}

// indices returns n indices below most.
func (s *series) indices(n, most int) []int {
	l := make([]int, n)
	for i := range l {
		l[i] = s.below(most)
	}
	return l
}

// numbers returns fractions of both signs and different lengths, and 0, 1 and -1.
func numbers() []fracs.Frac {
	return vec("0 1 -1 2 -2/3 7/5 36893488147419103233/18446744073709551616 -18446744073709551617")
}

// family returns r by c matrices: 0, some with ones and zeros only, some of short and one with long numbers.
func family(r, c int) []mats.Mat {
	s := &series{uint64(r*31+c) + 1301}
	list := []mats.Mat{blank(r, c), {R: r, C: c, A: s.vector(r * c)}, {R: r, C: c, A: s.vector(r * c)}}
	if r*c > 0 {
		last, huge, steps := blank(r, c), mats.Mat{R: r, C: c, A: s.vector(r * c)}, blank(r, c)
		last.A[r*c-1], huge.A[r*c/2] = read("1"), read("-340282366920938463463374607431768211455/2")
		for i := range r * c {
			steps.A[i] = fracs.Int(int64(i % c))
		}
		list = append(list, last, huge, steps)
	}
	return list
}

// vectors returns vectors of n elements: 0, and some of short numbers.
func vectors(n int) []vecs.Vec {
	s := &series{uint64(n) + 1307}
	return []vecs.Vec{make(vecs.Vec, n), s.vector(n), s.vector(n), s.vector(n)}
}

// sizes are those of the matrices that most is tested with.
func sizes() [][2]int {
	return [][2]int{{0, 0}, {0, 1}, {1, 0}, {0, 4}, {3, 0}, {1, 1}, {1, 2}, {2, 1}, {1, 5}, {4, 1}, {2, 2}, {2, 3}, {3, 2}, {3, 3}, {5, 4}}
}

// invalid is a matrix that may not be, and why.
type invalid struct {
	m     mats.Mat
	fault api.Errno
}

// invalids returns matrices that may not be.
func invalids() []invalid {
	of := func(r, c, n int) mats.Mat { return mats.Mat{R: r, C: c, A: make([]fracs.Frac, n)} }
	list := []invalid{}
	for _, m := range []mats.Mat{
		of(-1, 0, 0), of(0, -1, 0), of(-1, -1, 1), of(-3, -3, 9), of(-2, 2, 4), of(2, -2, 4), of(-1, 2049, 0), of(2049, -1, 0), of(-2049, 0, 0),
		of(math.MinInt, math.MaxInt, 0), of(math.MaxInt, math.MinInt, 0), of(math.MinInt, 2, 0), of(2, math.MinInt, 0),
		of(2, 2, 0), of(2, 2, 3), of(2, 2, 5), of(0, 0, 1), of(0, 3, 3), of(3, 0, 1), of(1, 2, 1), of(0, 2048, 2048), of(2048, 0, 1), of(2048, 1, 2047), of(2048, 2048, 0), of(1, 2048, 2049),
	} {
		list = append(list, invalid{m, api.ErrArg})
	}
	for _, m := range []mats.Mat{
		of(2049, 0, 0), of(0, 2049, 0), of(2049, 1, 2049), of(1, 2049, 2049), of(1, 2049, 0), of(2049, 2049, 1), of(2049, 2048, 5), of(4096, 0, 0),
		of(math.MaxInt, 0, 0), of(math.MaxInt, math.MaxInt, 1), of(1<<32, 1<<32, 0), of(1<<62, 4, 0), of(1<<33+1, 1<<31, 1<<11),
	} {
		list = append(list, invalid{m, api.ErrLimit})
	}
	return append(list, invalid{mats.Mat{R: 2, C: 2}, api.ErrArg}, invalid{mats.Mat{R: 2049}, api.ErrLimit}, invalid{mats.Mat{C: -1}, api.ErrArg})
}
