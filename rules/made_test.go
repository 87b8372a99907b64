package rules_test

import (
	"fmt"
	"math"
	"math/big"
	"testing"

	"gusset/api"
	"gusset/fracs"
	"gusset/rules"
)

// P10.2: the points of a lattice are all there, in order, and the rule is exact for all degrees up to n.
func TestLattice(t *testing.T) {
	if rules.MaxLattice != 6 {
		t.Errorf("MaxLattice: %d", rules.MaxLattice)
	}
	for n := 1; n <= 6; n++ {
		r, e := rules.Lattice(n)
		if e != api.OK {
			t.Fatalf("Lattice(%d): error %d", n, e)
		}
		var all rules.Rule
		for i := n; i >= 0; i-- {
			for j := n - i; j >= 0; j-- {
				all.Points = append(all.Points, [3]fracs.Frac(list(fmt.Sprintf("%d/%d %d/%d %d/%d", i, n, j, n, n-i-j, n))))
			}
		}
		if points(r) != points(all) || len(r.Weights) != (n+1)*(n+2)/2 {
			t.Fatalf("Lattice(%d): %s", n, shownRule(r))
		}
		for d := range n + 1 {
			if !exact(r, d) {
				t.Errorf("Lattice(%d) is not exact for the degree %d: %s", n, d, shownRule(r))
			}
		}
	}
}

// P10.2: the weights of some lattices.
func TestLatticeWeights(t *testing.T) {
	for n, want := range []string{
		1: "1/3 1/3 1/3", 2: "0 1/3 1/3 0 1/3 0", 3: "1/30 3/40 3/40 3/40 9/20 3/40 1/30 3/40 3/40 1/30",
		4: "0 4/45 4/45 -1/45 8/45 -1/45 4/45 8/45 8/45 4/45 0 4/45 -1/45 4/45 0",
	} {
		if n == 0 {
			continue
		}
		r, _ := rules.Lattice(n)
		if got := text(r.Weights); got != want {
			t.Errorf("Lattice(%d): %s, want %s", n, got, want)
		}
	}
}

// P10.2: the positions of a closed Newton-Cotes rule, and for which degrees it is exact.
func TestCotes(t *testing.T) {
	if rules.MaxCotes != 8 {
		t.Errorf("MaxCotes: %d", rules.MaxCotes)
	}
	for n := 1; n <= 8; n++ {
		l, e := rules.Cotes(n)
		if e != api.OK {
			t.Fatalf("Cotes(%d): error %d", n, e)
		}
		var all []fracs.Frac
		for m := range n + 1 {
			all = append(all, frac(big.NewRat(int64(m), int64(n))))
		}
		if text(l.At) != text(all) || len(l.Weights) != n+1 {
			t.Fatalf("Cotes(%d): %s", n, shownLine(l))
		}
		for d := range n + 1 {
			if !exactLine(l, d) {
				t.Errorf("Cotes(%d) is not exact for the degree %d: %s", n, d, shownLine(l))
			}
		}
	}
}

// P10.2: the rules that have names.
func TestCotesWeights(t *testing.T) {
	for n, want := range []string{
		1: "1/2 1/2", 2: "1/6 2/3 1/6", 3: "1/8 3/8 3/8 1/8", 4: "7/90 16/45 2/15 16/45 7/90", 5: "19/288 25/96 25/144 25/144 25/96 19/288",
		6: "41/840 9/35 9/280 34/105 9/280 9/35 41/840", 8: "989/28350 2944/14175 -464/14175 5248/14175 -454/2835 5248/14175 -464/14175 2944/14175 989/28350",
	} {
		if want == "" {
			continue
		}
		l, _ := rules.Cotes(n)
		if got := text(l.Weights); got != want {
			t.Errorf("Cotes(%d): %s, want %s", n, got, want)
		}
	}
}

// P10.2: arguments beyond both ends; every other result is then zero.
func TestMadeErrors(t *testing.T) {
	check := func(what string, n, most int, none bool, e api.Errno) {
		want := api.OK
		if n < 1 {
			want = api.ErrArg
		} else if n > most {
			want = api.ErrDegree
		}
		if e != want || none != (want != api.OK) {
			t.Errorf("%s(%d): error %d, want %d; zero result: %t", what, n, e, want, none)
		}
	}
	numbers := []int{math.MinInt, math.MinInt + 1, -(1 << 32) + 3, math.MinInt32, 1<<32 + 3, math.MaxInt32, math.MaxInt - 1, math.MaxInt}
	for n := -20; n <= 40; n++ {
		numbers = append(numbers, n)
	}
	for _, n := range numbers {
		r, e := rules.Lattice(n)
		check("Lattice", n, 6, r.Points == nil && r.Weights == nil, e)
		l, e := rules.Cotes(n)
		check("Cotes", n, 8, l.At == nil && l.Weights == nil, e)
	}
}
