package mods_test

import (
	"testing"

	"gusset/api"
	"gusset/mods"
)

// P6.1: all small numbers.
func TestPrimeOfSmallNumbers(t *testing.T) {
	for n, want := range sieved(1 << 20) {
		if mods.Prime(uint32(n)) != want {
			t.Fatalf("Prime(%d): %t", n, !want)
		}
	}
}

// P6.1: all numbers beside powers of 2 and squares of primes, at the ends of what Next and Prime cover, and others.
func TestPrimeOfGreatNumbers(t *testing.T) {
	list := divisors()
	starts := []uint32{1 << 24, 65521*65521 - 500, 65519*65519 - 500, 3037000500, 1<<31 - 1000, 1<<31 - 500, greatest - 2000, greatest - 1000}
	s := &series{2031}
	for range 20 {
		starts = append(starts, uint32(s.next()>>32)/1001*1000)
	}
	for _, start := range starts {
		for i := range uint32(1001) {
			if n := start + i; mods.Prime(n) != undivided(n, list) {
				t.Fatalf("Prime(%d): %t", n, mods.Prime(n))
			}
		}
	}
}

// P6.1: products of two primes, the squares among them.
func TestPrimeOfProducts(t *testing.T) {
	list := divisors()
	for i, q := range list {
		for _, r := range []uint32{q, list[max(i-1, 0)], list[i/2], list[i/3], list[i*i%97], list[i%10]} {
			if mods.Prime(q * r) {
				t.Fatalf("Prime(%d * %d)", q, r)
			}
		}
	}
}

// P6.1: composite numbers that pass for primes in some test: Fermat's with every number that has no common divisor
// with them (Carmichael), and the stronger one with 2, with 2 and 3, with 2, 3 and 5, and with two of 2, 7 and 61.
func TestPrimeOfPseudoprimes(t *testing.T) {
	for _, n := range []uint32{
		561, 1105, 1729, 2465, 2821, 6601, 8911, 10585, 15841, 29341, 294409, 56052361, 118901521, 172947529, 1299963601,
		2047, 3277, 4033, 4681, 8321, 1373653, 25326001, 161304001, 960946321, 1157839381, 3215031751,
		314821, 2269093, 2284453, 36765901, 4206295433,
		916327, 2205967, 2387797, 58449847, 4251904273,
		79381, 178709, 721801, 2814283, 4176385921,
	} {
		if mods.Prime(n) {
			t.Errorf("Prime(%d)", n)
		}
	}
}

// P6.1: numbers that are no primes because they are less than 2, even, or the greatest, and the primes at the ends.
func TestPrimeAtTheEnds(t *testing.T) {
	for _, n := range []uint32{0, 1, 4, 6, 9, 65536, 1 << 31, 1<<31 - 2, greatest - 1, greatest, topPrime + 1, topPrime - 1} {
		if mods.Prime(n) {
			t.Errorf("Prime(%d)", n)
		}
	}
	for _, n := range primes() {
		if !mods.Prime(n) {
			t.Errorf("not Prime(%d)", n)
		}
	}
}

// P6.1: Next of all small numbers.
func TestNextOfSmallNumbers(t *testing.T) {
	const most = 1 << 17
	is := sieved(most)
	var want uint32
	for n := most - 1; n >= 0; n-- {
		if q, e := mods.Next(uint32(n)); want != 0 && (q != want || e != api.OK) {
			t.Fatalf("Next(%d): %d, error %d; want %d", n, q, e, want)
		}
		if is[n] {
			want = uint32(n)
		}
	}
	if want != 2 {
		t.Error("no prime has been seen")
	}
}

// P6.1: the chapter's examples, wide gaps, and the end of the primes below Top.
func TestNextExamples(t *testing.T) {
	for _, x := range []struct {
		n, want uint32
		e       api.Errno
	}{
		{0, 2, api.OK}, {1, 2, api.OK}, {2, 3, api.OK}, {3, 5, api.OK}, {113, 127, api.OK}, {1327, 1361, api.OK}, {31397, 31469, api.OK}, {65521, 65537, api.OK},
		{20831323, 20831533, api.OK}, {1453168141, 1453168433, api.OK},
		{1<<31 - 20, 1<<31 - 19, api.OK}, {1<<31 - 19, 1<<31 - 1, api.OK}, {1<<31 - 3, 1<<31 - 1, api.OK}, {1<<31 - 2, 1<<31 - 1, api.OK},
		{1<<31 - 1, 0, api.ErrLimit}, {1 << 31, 0, api.ErrLimit}, {1<<31 + 1, 0, api.ErrLimit}, {2147483659, 0, api.ErrLimit},
		{topPrime - 1, 0, api.ErrLimit}, {topPrime, 0, api.ErrLimit}, {greatest - 1, 0, api.ErrLimit}, {greatest, 0, api.ErrLimit},
	} {
		if q, e := mods.Next(x.n); q != x.want || e != x.e {
			t.Errorf("Next(%d): %d, error %d; want %d, error %d", x.n, q, e, x.want, x.e)
		}
	}
	if mods.Top != 1<<31 {
		t.Errorf("Top: %d", uint64(mods.Top))
	}
}
