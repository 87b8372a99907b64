package vecs_test

import (
	"math/big"
	"strings"
	"testing"

	"gusset/api"
	"gusset/fracs"
	"gusset/vecs"
)

// rat returns the fraction that s spells.
func rat(s string) *big.Rat {
	r, ok := new(big.Rat).SetString(s)
	if !ok {
		panic("no fraction: " + s)
	}
	return r
}

// frac returns the Frac of r.
func frac(r *big.Rat) fracs.Frac {
	a, e := fracs.Parse(r.RatString())
	if e != api.OK {
		panic("no Frac for a fraction in a test")
	}
	return a
}

// read returns the Frac that s spells.
func read(s string) fracs.Frac { return frac(rat(s)) }

// vec returns the vector whose elements s spells, with spaces between them.
func vec(s string) vecs.Vec {
	var v vecs.Vec
	for _, word := range strings.Fields(s) {
		v = append(v, read(word))
	}
	return v
}

// long returns a vector of n elements, of which one out of seven is not 0.
func long(n int) vecs.Vec {
	v := make(vecs.Vec, n)
	for i := 0; i < n; i += 7 {
		v[i] = frac(big.NewRat(int64(i%11-5), int64(1+i%3)))
	}
	return v
}

// rats returns the elements of v, that is their numbers.
func rats(v []fracs.Frac) []*big.Rat {
	l := []*big.Rat{}
	for _, x := range v {
		l = append(l, rat(fracs.Text(x)))
	}
	return l
}

// plus and times return the sum and the product of a and b.
func plus(a, b *big.Rat) *big.Rat  { return new(big.Rat).Add(a, b) }
func times(a, b *big.Rat) *big.Rat { return new(big.Rat).Mul(a, b) }

// mixed returns c[0] l[0] + c[1] l[1] .. in elements of the number n.
func mixed(n int, c []*big.Rat, l ...vecs.Vec) []*big.Rat {
	sums := make([]*big.Rat, n)
	for i := range sums {
		sums[i] = new(big.Rat)
	}
	for k, v := range l {
		for i, x := range rats(v) {
			sums[i] = plus(sums[i], times(c[k], x))
		}
	}
	return sums
}

// product returns the dot product of a and b.
func product(a, b vecs.Vec) *big.Rat {
	sum, y := new(big.Rat), rats(b)
	for i, x := range rats(a) {
		sum.Add(sum, times(x, y[i]))
	}
	return sum
}

// greatest returns the greatest absolute value in a, or 0.
func greatest(a []*big.Rat) *big.Rat {
	most := new(big.Rat)
	for _, x := range a {
		if abs := new(big.Rat).Abs(x); abs.Cmp(most) > 0 {
			most = abs
		}
	}
	return most
}

// isZero reports whether all elements of a are 0.
func isZero(a vecs.Vec) bool { return greatest(rats(a)).Sign() == 0 }

// parallel reports whether one of a and b is a multiple of the other.
func parallel(a, b vecs.Vec) bool {
	x, y := rats(a), rats(b)
	for i := range x {
		for k := range i {
			if times(x[i], y[k]).Cmp(times(x[k], y[i])) != 0 {
				return false
			}
		}
	}
	return true
}

// shown returns numbers as text, which is not that of vecs.Text.
func shown(l []*big.Rat) string {
	var words []string
	for _, r := range l {
		words = append(words, r.RatString())
	}
	if len(words) > 12 {
		words = append(words[:12], "..")
	}
	return "(" + strings.Join(words, ", ") + ")"
}

// want fails unless got has the elements r and no room behind them, and e is OK.
func want(t *testing.T, what string, got vecs.Vec, e api.Errno, r []*big.Rat) {
	t.Helper()
	if e != api.OK {
		t.Fatalf("%s: error %d, want %s", what, e, shown(r))
	}
	same := len(got) == len(r)
	for i, x := range rats(got) {
		same = same && x.Cmp(r[i]) == 0
	}
	if !same {
		t.Fatalf("%s: %s of length %d, want %s of length %d", what, shown(rats(got)), len(got), shown(r), len(r))
	}
	if cap(got) != len(got) {
		t.Fatalf("%s: capacity %d of %d elements", what, cap(got), len(got))
	}
}

// wantNumber fails unless got is r and e is OK.
func wantNumber(t *testing.T, what string, got fracs.Frac, e api.Errno, r *big.Rat) {
	t.Helper()
	if e != api.OK || fracs.Text(got) != r.RatString() {
		t.Fatalf("%s: %s, error %d, want %s", what, fracs.Text(got), e, r.RatString())
	}
}

// wantFault fails unless e is fault, and no elements came with it.
func wantFault(t *testing.T, what string, got vecs.Vec, e, fault api.Errno) {
	t.Helper()
	if e != fault || len(got) != 0 {
		t.Fatalf("%s: error %d with %d elements, want error %d", what, e, len(got), fault)
	}
}

// good returns a vector that came without an error.
func good(t *testing.T) func(v vecs.Vec, e api.Errno) vecs.Vec {
	return func(v vecs.Vec, e api.Errno) vecs.Vec {
		t.Helper()
		if e != api.OK {
			t.Fatalf("error %d", e)
		}
		return v
	}
}

// number returns a number that came without an error.
func number(t *testing.T) func(a fracs.Frac, e api.Errno) fracs.Frac {
	return func(a fracs.Frac, e api.Errno) fracs.Frac {
		t.Helper()
		if e != api.OK {
			t.Fatalf("error %d", e)
		}
		return a
	}
}

// series is a sequence of numbers that is the same in each run.
type series struct{ state uint64 }

func (s *series) next() uint64 {
	s.state ^= s.state << 13
	s.state ^= s.state >> 7
	s.state ^= s.state << 17
	return s.state * 0x2545f4914f6cdd1d
}

// below returns a number from 0 to n - 1.
func (s *series) below(n int) int { return int(s.next() >> 1 % uint64(n)) }

// vector returns a vector of n elements of either sign, often integers or 0.
func (s *series) vector(n int) vecs.Vec {
	v := make(vecs.Vec, n)
	for i := range v {
		v[i] = frac(big.NewRat(int64(s.below(13)-6), int64(1+s.below(4))))
	}
	return v
}

// numbers returns fractions of both signs and different lengths, and 0, 1 and -1.
func numbers() []fracs.Frac {
	return vec("0 1 -1 2 -3 1/2 -2/3 7/5 36893488147419103233/18446744073709551616 -18446744073709551617")
}

// family returns vectors of n elements: 0, unit vectors, multiples of others, and ones with long numbers.
func family(n int) []vecs.Vec {
	list := []vecs.Vec{make(vecs.Vec, n)}
	s := &series{uint64(n) + 1201}
	for i := range 4 {
		v := s.vector(n)
		list = append(list, v)
		if i%2 == 0 {
			double := make(vecs.Vec, n)
			for k, x := range rats(v) {
				double[k] = frac(times(x, rat("-5/3")))
			}
			list = append(list, double)
		}
	}
	if n > 0 {
		first, last, huge := make(vecs.Vec, n), make(vecs.Vec, n), s.vector(n)
		first[0], last[n-1], huge[n/2] = read("1"), read("1"), read("-340282366920938463463374607431768211455/2")
		list = append(list, first, last, huge)
	}
	return list
}

// lengths are those of the vectors that the laws are tested with.
func lengths() []int { return []int{0, 1, 2, 3, 7} }
