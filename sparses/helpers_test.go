package sparses_test

import (
	"math"
	"slices"
	"strings"
	"testing"

	"gusset/api"
	"gusset/fracs"
	"gusset/mats"
	"gusset/sparses"
	"gusset/vecs"
)

// zero is the number 0.
var zero = fracs.Int(0)

// read returns the fraction that s spells.
func read(s string) fracs.Frac {
	x, e := fracs.Parse(s)
	if e != api.OK {
		panic("no fraction: " + s)
	}
	return x
}

// vec returns the vector whose elements s spells, with spaces between them.
func vec(s string) vecs.Vec {
	v := vecs.Vec{}
	for _, word := range strings.Fields(s) {
		v = append(v, read(word))
	}
	return v
}

// mat returns the r by c matrix whose elements s spells, row by row.
func mat(r, c int, s string) mats.Mat { return mats.Mat{R: r, C: c, A: vec(s)} }

// none returns the r by c zero matrix.
func none(r, c int) mats.Mat { return mats.Mat{R: r, C: c, A: make([]fracs.Frac, r*c)} }

// row returns a row with the values that s spells, in the given columns.
func row(s string, cols ...int) []sparses.Entry {
	var l []sparses.Entry
	for i, v := range vec(s) {
		l = append(l, sparses.Entry{Col: cols[i], V: v})
	}
	return l
}

// thin returns the matrix whose dense form is m. It is made here, by no function of the package.
func thin(m mats.Mat) sparses.Sparse {
	s := sparses.Sparse{N: m.R, M: m.C, Rows: make([][]sparses.Entry, m.R)}
	for i, x := range m.A {
		if x != zero {
			s.Rows[i/m.C] = append(s.Rows[i/m.C], sparses.Entry{Col: i % m.C, V: x})
		}
	}
	return s
}

// striped returns the n by m matrix with the numbers that s spells from column -1 on, seen from the diagonal.
func striped(n, m int, s string) sparses.Sparse {
	t := sparses.Sparse{N: n, M: m, Rows: make([][]sparses.Entry, n)}
	for i := range n {
		for k, v := range vec(s) {
			if col := i + k - 1; v != zero && 0 <= col && col < m {
				t.Rows[i] = append(t.Rows[i], sparses.Entry{Col: col, V: v})
			}
		}
	}
	return t
}

// clone returns a copy of s that shares no memory with it.
func clone(s sparses.Sparse) sparses.Sparse {
	c := sparses.Sparse{N: s.N, M: s.M}
	for _, l := range s.Rows {
		c.Rows = append(c.Rows, slices.Clone(l))
	}
	return c
}

// alike reports whether a and b are the same, as slices of slices.
func alike(a, b sparses.Sparse) bool {
	return a.N == b.N && a.M == b.M && slices.EqualFunc(a.Rows, b.Rows, func(l, m []sparses.Entry) bool { return slices.Equal(l, m) })
}

// shown returns what there is in s, which may be invalid.
func shown(s sparses.Sparse) string {
	var words []string
	for _, l := range s.Rows {
		words = append(words, "|")
		for _, x := range l {
			words = append(words, vecs.Text(vecs.Vec{fracs.Int(int64(x.Col)), x.V}))
		}
	}
	if len(words) > 40 {
		words = append(words[:40], "..")
	}
	return vecs.Text(vecs.Of(int64(s.N), int64(s.M))) + strings.Join(words, " ")
}

// want fails unless got is the sparse form of w with no room behind its rows and entries, and e is OK.
func want(t *testing.T, what string, got sparses.Sparse, e api.Errno, w mats.Mat) {
	t.Helper()
	wantSparse(t, what, got, e, thin(w))
}

// wantSparse fails unless got is w with no room behind its rows and entries, and e is OK.
func wantSparse(t *testing.T, what string, got sparses.Sparse, e api.Errno, w sparses.Sparse) {
	t.Helper()
	if e != api.OK || !alike(got, w) {
		t.Fatalf("%s: %s, error %d, want %s", what, shown(got), e, shown(w))
	}
	if cap(got.Rows) != len(got.Rows) {
		t.Fatalf("%s: capacity %d of %d rows", what, cap(got.Rows), len(got.Rows))
	}
	for i, l := range got.Rows {
		if cap(l) != len(l) {
			t.Fatalf("%s: capacity %d of %d entries in row %d", what, cap(l), len(l), i)
		}
	}
}

// wantVec fails unless got is the vector w with no room behind its elements, and e is OK.
func wantVec(t *testing.T, what string, got vecs.Vec, e api.Errno, w vecs.Vec) {
	t.Helper()
	if e != api.OK || !slices.Equal(got, w) || cap(got) != len(got) {
		t.Fatalf("%s: %s, capacity %d, error %d, want %s", what, vecs.Text(got), cap(got), e, vecs.Text(w))
	}
}

// wantFault fails unless e is fault, and nothing came with it.
func wantFault(t *testing.T, what string, got sparses.Sparse, e, fault api.Errno) {
	t.Helper()
	if e != fault || got.N != 0 || got.M != 0 || len(got.Rows) != 0 {
		t.Fatalf("%s: error %d with %s, want error %d", what, e, shown(got), fault)
	}
}

// wantVecFault fails unless e is fault, and no elements came with it.
func wantVecFault(t *testing.T, what string, got vecs.Vec, e, fault api.Errno) {
	t.Helper()
	if e != fault || len(got) != 0 {
		t.Fatalf("%s: error %d with %d elements, want error %d", what, e, len(got), fault)
	}
}

// good returns a result that came without an error.
func good[T any](t *testing.T) func(x T, e api.Errno) T {
	return func(x T, e api.Errno) T {
		t.Helper()
		if e != api.OK {
			t.Fatalf("error %d", e)
		}
		return x
	}
}

// series is a sequence of numbers that is the same in each run.
type series struct{ state uint64 }

func (s *series) next() uint64 {
	s.state ^= s.state << 13
	s.state ^= s.state >> 7
	s.state ^= s.state << 17
	return s.state * 0x2545f4914f6cdd1d
}

// below returns a number from 0 to n - 1.
func (s *series) below(n int) int { return int(s.next() >> 1 % uint64(n)) }

// vector returns n numbers of either sign, of which about one out of share is not 0.
func (s *series) vector(n, share int) vecs.Vec {
	v := make(vecs.Vec, n)
	for i := range v {
		if s.below(share) == 0 {
			v[i], _ = fracs.Of(int64(s.below(13)-6), int64(1+s.below(4)))
		}
	}
	return v
}

// indices returns n indices below most.
func (s *series) indices(n, most int) []int {
	l := make([]int, n)
	for i := range l {
		l[i] = s.below(most)
	}
	return l
}

// shuffle brings the elements of l into another order.
func shuffle[T any](s *series, l []T) {
	for i := range l {
		k := i + s.below(len(l)-i)
		l[i], l[k] = l[k], l[i]
	}
}

// numbers returns fractions of both signs and different lengths, and 0, 1 and -1.
func numbers() []fracs.Frac {
	return vec("0 1 -1 2 -2/3 7/5 36893488147419103233/18446744073709551616 -18446744073709551617")
}

// family returns r by c matrices: 0, some that are full, half full and almost empty, and one with long numbers.
func family(r, c int) []mats.Mat {
	s := &series{uint64(r*31+c) + 1601}
	list := []mats.Mat{none(r, c)}
	for _, share := range []int{1, 2, 5} {
		list = append(list, mats.Mat{R: r, C: c, A: s.vector(r*c, share)})
	}
	if r*c > 0 {
		first, last, huge := none(r, c), none(r, c), mats.Mat{R: r, C: c, A: s.vector(r*c, 3)}
		first.A[0], last.A[r*c-1] = read("-3"), read("1")
		huge.A[r*c/2] = read("-340282366920938463463374607431768211455/2")
		list = append(list, first, last, huge)
	}
	return list
}

// vectors returns vectors of n elements: 0, and some of short numbers.
func vectors(n int) []vecs.Vec {
	s := &series{uint64(n) + 1607}
	return []vecs.Vec{make(vecs.Vec, n), s.vector(n, 1), s.vector(n, 2), s.vector(n, 1)}
}

// sizes are those of the matrices that most is tested with.
func sizes() [][2]int {
	return [][2]int{{0, 0}, {0, 1}, {1, 0}, {0, 4}, {3, 0}, {1, 1}, {1, 2}, {2, 1}, {1, 5}, {4, 1}, {2, 2}, {2, 3}, {3, 2}, {3, 3}, {5, 4}, {4, 7}}
}

// upTo returns the indices below n.
func upTo(n int) []int {
	l := make([]int, n)
	for i := range l {
		l[i] = i
	}
	return l
}

// beyond returns integers that are no indices below n.
func beyond(n int) []int {
	return []int{-1, -2, -n - 1, math.MinInt, math.MinInt32, n, n + 1, 2049, 1 << 32, math.MaxInt}
}

// invalid is a matrix that may not be, and why.
type invalid struct {
	s     sparses.Sparse
	fault api.Errno
}

// invalids returns matrices that may not be.
func invalids() []invalid {
	of := func(n, m int, rows ...[]sparses.Entry) sparses.Sparse { return sparses.Sparse{N: n, M: m, Rows: rows} }
	empty := func(n int) [][]sparses.Entry { return make([][]sparses.Entry, n) }
	list := []invalid{}
	for _, s := range []sparses.Sparse{
		of(-1, 0), of(0, -1), of(-1, -1), of(-1, 2049), of(2049, -1), of(math.MinInt, math.MaxInt), of(math.MaxInt, math.MinInt), of(-2049, 3), of(3, -2, empty(3)...), of(-1, 1, row("1", 0)),
		of(1, 2), of(2, 2, nil), of(2, 2, nil, nil, nil), of(0, 0, nil), of(0, 3, row("1", 0)), of(2048, 2, empty(2047)...), of(2047, 2, empty(2048)...), of(2048, 2048),
		of(1, 2, row("1", 2)), of(1, 2, row("1", -1)), of(1, 2, row("1", math.MaxInt)), of(1, 2, row("1", math.MinInt)), of(1, 0, row("1", 0)), of(1, 2048, row("1", 2048)),
		of(1, 2, row("0", 0)), of(1, 2, row("0", 1)), of(1, 3, row("1 0 2", 0, 1, 2)), of(2, 1, row("1", 0), row("0", 0)), of(2, 2, nil, row("3 0", 0, 1)),
		of(1, 2, row("1 1", 1, 1)), of(1, 2, row("1 1", 0, 0)), of(1, 2, row("1 2", 1, 0)), of(1, 4, row("1 2 3", 0, 3, 2)), of(1, 4, row("1 2 3", 0, 3, 3)), of(1, 4, row("1 2 3", 2, 1, 3)),
		of(3, 3, row("1", 0), row("1", 1), row("1 1", 2, 0)), of(2, 2, row("1 1 1", 0, 1, 2), nil), of(2, 2, row("1 1", 0, 1), row("1 1 1", 0, 1, 1)),
	} {
		list = append(list, invalid{s, api.ErrArg})
	}
	for _, s := range []sparses.Sparse{
		of(2049, 0), of(0, 2049), of(2049, 0, empty(2049)...), of(1, 2049, nil), of(1, 2049, row("1", 7)), of(2049, 2049), of(0, 2049, nil), of(1, 2049, row("0", -1)),
		of(math.MaxInt, 0), of(0, math.MaxInt), of(math.MaxInt, math.MaxInt), of(1<<32, 1<<32), of(1<<62, 4), of(2, 4096, nil, nil),
	} {
		list = append(list, invalid{s, api.ErrLimit})
	}
	return list
}
