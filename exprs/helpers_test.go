package exprs_test

import (
	"fmt"
	"math/big"
	"slices"
	"strings"
	"testing"

	"gusset/api"
	"gusset/exprs"
	"gusset/fracs"
	"gusset/polys"
)

// rat returns the fraction that s spells.
func rat(s string) *big.Rat {
	r, ok := new(big.Rat).SetString(s)
	if !ok {
		panic("no fraction: " + s)
	}
	return r
}

// frac returns the Frac of r, whatever its size.
func frac(r *big.Rat) fracs.Frac {
	a, e := fracs.Div(integer(r.Num()), integer(r.Denom()))
	if e != api.OK {
		panic("no Frac for a fraction in a test")
	}
	return a
}

// integer returns n as a Frac, by its digits to the base 2^32.
func integer(n *big.Int) fracs.Frac {
	base, sum := fracs.Int(1<<32), fracs.Int(0)
	abs := new(big.Int).Abs(n)
	for i := (abs.BitLen() + 31) / 32; i > 0; i-- {
		digit := new(big.Int).Rsh(abs, uint(i-1)*32)
		sum = fracs.Add(fracs.Mul(sum, base), fracs.Int(digit.And(digit, big.NewInt(1<<32-1)).Int64()))
	}
	if n.Sign() < 0 {
		return fracs.Neg(sum)
	}
	return sum
}

// term returns the term with the coefficient that c spells.
func term(c string, i, j int) polys.Term { return polys.Term{I: i, J: j, C: frac(rat(c))} }

// model is a polynomial: its coefficients by the exponents of x and y, none of them 0.
type model map[[2]int]*big.Rat

// constant returns the polynomial c.
func constant(c *big.Rat) model { return model{}.combined(c, model{{0, 0}: rat("1")}) }

// combined returns m + c n.
func (m model) combined(c *big.Rat, n model) model {
	out := model{}
	for at, a := range m {
		out[at] = a
	}
	for at, a := range n {
		sum := new(big.Rat).Mul(c, a)
		if old := out[at]; old != nil {
			sum.Add(sum, old)
		}
		if out[at] = sum; sum.Sign() == 0 {
			delete(out, at)
		}
	}
	return out
}

// times returns m n.
func (m model) times(n model) model {
	out := model{}
	for p, a := range m {
		row := model{}
		for q, b := range n {
			row[[2]int{p[0] + q[0], p[1] + q[1]}] = b
		}
		out = out.combined(a, row)
	}
	return out
}

// power returns m to the power n.
func (m model) power(n int) model {
	out := constant(rat("1"))
	for range n {
		out = out.times(m)
	}
	return out
}

// degree returns the greatest sum of exponents, or -1.
func (m model) degree() int {
	d := -1
	for at := range m {
		d = max(d, at[0]+at[1])
	}
	return d
}

// size returns the number of binary digits of all numerators and denominators.
func (m model) size() int {
	sum := 0
	for _, c := range m {
		sum += c.Num().BitLen() + c.Denom().BitLen()
	}
	return sum
}

// poly returns the normalized polynomial of m.
func (m model) poly() polys.Poly {
	var p polys.Poly
	for d := range 13 {
		for j := range d + 1 {
			if c := m[[2]int{d - j, j}]; c != nil {
				p = append(p, polys.Term{I: d - j, J: j, C: frac(c)})
			}
		}
	}
	return p
}

// brief returns s, or its ends if it is long.
func brief(s string) string {
	if len(s) > 200 {
		return fmt.Sprintf("%q .. %q (%d bytes)", s[:90], s[len(s)-90:], len(s))
	}
	return fmt.Sprintf("%q", s)
}

// want fails unless Parse and Value return p, which is normalized, without a fault.
func want(t *testing.T, s string, p polys.Poly) {
	t.Helper()
	got, f := exprs.Parse(s)
	if f != (exprs.Fault{}) {
		t.Fatalf("%s: error %d at %d", brief(s), f.E, f.At)
	}
	if !slices.Equal(got, p) || cap(got) != len(got) {
		t.Fatalf("%s: %s, want %s; length %d, capacity %d", brief(s), brief(polys.Text(got)), brief(polys.Text(p)), len(got), cap(got))
	}
	if again, e := exprs.Value(s); e != api.OK || !slices.Equal(again, p) {
		t.Fatalf("Value(%s): %s, error %d", brief(s), brief(polys.Text(again)), e)
	}
}

// wantText fails unless s denotes the polynomial with that text.
func wantText(t *testing.T, s, text string) {
	t.Helper()
	p, f := exprs.Parse(s)
	if polys.Text(p) != text || f != (exprs.Fault{}) {
		t.Fatalf("%s: %s, error %d at %d, want %s", brief(s), brief(polys.Text(p)), f.E, f.At, text)
	}
	want(t, s, p)
}

// wantFault fails unless Parse returns that fault, and Value that error, with no polynomial.
func wantFault(t *testing.T, s string, e api.Errno, at int) {
	t.Helper()
	if p, f := exprs.Parse(s); len(p) != 0 || f != (exprs.Fault{E: e, At: at}) {
		t.Fatalf("%s: %s, error %d at %d, want %d at %d", brief(s), brief(polys.Text(p)), f.E, f.At, e, at)
	}
	if p, got := exprs.Value(s); len(p) != 0 || got != e {
		t.Fatalf("Value(%s): %s, error %d, want %d", brief(s), brief(polys.Text(p)), got, e)
	}
}

// wantJudged fails unless Parse and Value return what the definition says. It returns the error.
func wantJudged(t *testing.T, s string) api.Errno {
	t.Helper()
	m, f := judged(s)
	if f == (exprs.Fault{}) {
		want(t, s, m.poly())
	} else {
		wantFault(t, s, f.E, f.At)
	}
	return f.E
}

// series is a sequence of numbers that is the same in each run.
type series struct{ state uint64 }

func (s *series) next() uint64 {
	s.state ^= s.state << 13
	s.state ^= s.state >> 7
	s.state ^= s.state << 17
	return s.state * 0x2545f4914f6cdd1d
}

// below returns a number from 0 to n - 1.
func (s *series) below(n int) int { return int(s.next() >> 1 % uint64(n)) }

// pick returns one of the words of l.
func (s *series) pick(l string) string {
	words := strings.Fields(l)
	return words[s.below(len(words))]
}

// model returns a polynomial with at most n terms, of at most the given degree.
func (s *series) model(n, degree int) model {
	m := model{}
	for range s.below(n + 1) {
		d := s.below(degree + 1)
		j := s.below(d + 1)
		m = m.combined(big.NewRat(int64(s.below(13)-6), int64(1+s.below(4))), model{{d - j, j}: rat("1")})
	}
	return m
}

// models returns polynomials: 0, constants, and sparse and dense ones of all degrees.
func models() []model {
	list := []model{{}, constant(rat("1")), constant(rat("-5/3")), {{1, 0}: rat("1")}, {{0, 1}: rat("-1")}, {{6, 6}: rat("2/3")}, {{0, 12}: rat("18446744073709551617")}}
	s := &series{1101}
	for d := range 13 {
		list = append(list, s.model(3, d), s.model(100, d))
	}
	return list
}
