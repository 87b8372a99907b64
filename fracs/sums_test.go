package fracs_test

import (
	"math/big"
	"testing"

	"gusset/fracs"
)

// P3.3: Add and Sub.
func TestAddAndSub(t *testing.T) {
	for _, p := range pairs() {
		a, b := frac(p[0]), frac(p[1])
		want(t, "Add", fracs.Add(a, b), new(big.Rat).Add(p[0], p[1]))
		want(t, "Sub", fracs.Sub(a, b), new(big.Rat).Sub(p[0], p[1]))
	}
}

// P3.3: all sums and differences of small fractions, in which every common divisor occurs.
func TestSmallSums(t *testing.T) {
	for n := int64(-7); n <= 7; n++ {
		for d := int64(1); d <= 12; d++ {
			for m := int64(-7); m <= 7; m++ {
				for c := int64(1); c <= 12; c++ {
					a, _ := fracs.Of(n, d)
					b, _ := fracs.Of(m, c)
					sum, _ := fracs.Of(n*c+m*d, d*c)
					difference, _ := fracs.Of(n*c-m*d, d*c)
					if fracs.Add(a, b) != sum || fracs.Sub(a, b) != difference {
						t.Fatalf("%d/%d and %d/%d: %s, %s", n, d, m, c, fracs.Text(fracs.Add(a, b)), fracs.Text(fracs.Sub(a, b)))
					}
				}
			}
		}
	}
}

// P3.3: sums in which nearly all of long denominators cancels.
func TestSumsThatCancel(t *testing.T) {
	s := &series{17}
	for i := range 100 {
		d := s.size(2 + i%9)
		a := over(s.size(1+i%7), d)
		rest := s.fraction(1)
		b := new(big.Rat).Sub(rest, a)
		want(t, "Add", fracs.Add(frac(a), frac(b)), rest)
		want(t, "Sub", fracs.Sub(frac(a), frac(negative(b))), rest)
		want(t, "a - a", fracs.Sub(frac(a), frac(a)), new(big.Rat))
	}
}

// P3.3: Sum of no arguments, and of one.
func TestSumOfFew(t *testing.T) {
	var zero fracs.Frac
	if fracs.Sum() != zero || fracs.Sum(nil...) != zero || fracs.Sum([]fracs.Frac{}...) != zero {
		t.Error("the sum of nothing is not 0")
	}
	for _, r := range edges() {
		want(t, "Sum", fracs.Sum(frac(r)), r)
	}
}

// P3.3: Sum of several numbers.
func TestSum(t *testing.T) {
	sum := new(big.Rat)
	var list []fracs.Frac
	for n := range int64(300) {
		r := big.NewRat(1-n%2*2, n+1)
		sum.Add(sum, r)
		list = append(list, frac(r))
		want(t, "Sum", fracs.Sum(list...), sum)
	}
	list, sum = nil, new(big.Rat)
	for _, r := range edges() {
		sum.Add(sum, r)
		list = append(list, frac(r))
		want(t, "Sum", fracs.Sum(list...), sum)
	}
}
