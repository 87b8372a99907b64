package bareiss_test

import (
	"math/big"
	"testing"

	"gusset/api"
	"gusset/bareiss"
	"gusset/fracs"
	"gusset/ints"
	"gusset/mats"
	"gusset/nats"
	"gusset/vecs"
)

// larger returns square matrices that are too large for definitions.
func larger() []bareiss.Whole {
	s := &series{1553}
	l := squares()
	for _, n := range []int{8, 11, 15} {
		l = append(l, s.whole(n, n), s.few(n, n), s.low(n, n, n-1), s.low(n, n, n-2), s.flat(n, n, n-2, n-3), s.flat(n, n, n-1, n-3))
	}
	return l
}

// determinant returns the determinant of m.
func determinant(t *testing.T, m bareiss.Whole) *big.Int {
	return num(ints.Text(good[ints.Int](t)(bareiss.Det(m))))
}

// P15.5: Sylvester's identity.
func TestSylvester(t *testing.T) {
	for _, m := range larger() {
		d := determinant(t, m)
		for s := range m.R {
			corner := determinant(t, wholeOf(part(tableOf(m), count(s), count(s))))
			want := times(d, new(big.Int).Exp(corner, big.NewInt(int64(m.R-s-1)), nil))
			if x := determinant(t, good[bareiss.Whole](t)(bareiss.Stage(m, s))); x.Cmp(want) != 0 {
				t.Fatalf("%s: determinant %v of stage %d, want %v", bareiss.Text(m), x, s, want)
			}
		}
	}
}

// P15.6: Cramer's quotients solve the system.
func TestCramerSolves(t *testing.T) {
	for _, m := range larger() {
		a := good[mats.Mat](t)(bareiss.Frac(m))
		for _, b := range columns(m.R) {
			d, l, e := bareiss.Cramer(m, b)
			if determinant(t, m).Sign() == 0 {
				if e != api.ErrSingular {
					t.Fatalf("%s: error %d", bareiss.Text(m), e)
				}
				continue
			}
			x := vecs.Vec{}
			for _, n := range l {
				quotient, _ := fracs.Div(fraction(ints.Text(n)), fraction(ints.Text(d)))
				x = append(x, quotient)
			}
			image := good[vecs.Vec](t)(mats.Apply(a, x))
			for i, y := range image {
				if fracs.Text(y) != ints.Text(b[i]) {
					t.Fatalf("%s and %v: %s is no solution", bareiss.Text(m), b, vecs.Text(x))
				}
			}
		}
	}
}

// P15.6: the products of a matrix and its adjugate.
func TestAdjugateProducts(t *testing.T) {
	for _, m := range larger() {
		a, adjugate := tableOf(m), tableOf(good[bareiss.Whole](t)(bareiss.Adjugate(m)))
		want := diagonal(m.R, determinant(t, m))
		if !same(product(a, adjugate), want) || !same(product(adjugate, a), want) {
			t.Fatalf("%s: products with the adjugate", bareiss.Text(m))
		}
	}
}

// P15.6: no determinant is beyond the bound.
func TestBoundOfDeterminants(t *testing.T) {
	for _, m := range larger() {
		bound := num(ints.Text(good[ints.Int](t)(bareiss.Bound(m))))
		if determinant(t, m).CmpAbs(bound) > 0 {
			t.Fatalf("%s: bound %v", bareiss.Text(m), bound)
		}
	}
}

// P15.7: a multiple has no common divisor with all elements of its row, and the determinant grows by the multiples.
func TestClearLaws(t *testing.T) {
	for _, a := range mixed() {
		m, by, e := bareiss.Clear(a)
		if e != api.OK {
			t.Fatal(e)
		}
		factor := big.NewInt(1)
		for i, n := range by {
			divisor := n
			for _, x := range m.A[i*m.C : (i+1)*m.C] {
				divisor = nats.Gcd(divisor, ints.Abs(x))
			}
			if divisor != nats.Of(1) {
				t.Fatalf("%s: row %d, common divisor %s", mats.Text(a), i, nats.Text(divisor))
			}
			factor = times(factor, num(nats.Text(n)))
		}
		if a.R == a.C {
			want := detOf(a)
			if want.Mul(want, new(big.Rat).SetInt(factor)); want.RatString() != determinant(t, m).String() {
				t.Fatalf("%s: determinant %v of the result", mats.Text(a), determinant(t, m))
			}
		}
	}
}

// detOf returns the determinant of a by its definition.
func detOf(a mats.Mat) *big.Rat {
	sum := new(big.Rat)
	permute(a.R, func(p []int, sign int64) {
		term := big.NewRat(sign, 1)
		for i, k := range p {
			x, _ := new(big.Rat).SetString(fracs.Text(a.A[i*a.C+k]))
			term.Mul(term, x)
		}
		sum.Add(sum, term)
	})
	return sum
}
