package integrals_test

import (
	"fmt"
	"math/big"
	"slices"
	"strings"
	"testing"

	"gusset/api"
	"gusset/fracs"
	"gusset/polys"
)

// rat returns the fraction that s spells.
func rat(s string) *big.Rat {
	r, ok := new(big.Rat).SetString(s)
	if !ok {
		panic("no fraction: " + s)
	}
	return r
}

// frac returns the Frac of r.
func frac(r *big.Rat) fracs.Frac {
	a, e := fracs.Parse(r.RatString())
	if e != api.OK {
		panic("no Frac for a fraction in a test")
	}
	return a
}

// read returns the Frac that s spells.
func read(s string) fracs.Frac { return frac(rat(s)) }

// at returns the point with the coordinates that x and y spell.
func at(x, y string) [2]fracs.Frac { return [2]fracs.Frac{read(x), read(y)} }

// term returns the term with the coefficient that c spells.
func term(c string, i, j int) polys.Term { return polys.Term{I: i, J: j, C: read(c)} }

// power returns x^i y^j.
func power(i, j int) polys.Poly { return polys.Poly{term("1", i, j)} }

// monomial is c x^i y^j.
type monomial struct {
	i, j int
	c    *big.Rat
}

// monomials returns what p represents as an argument: nothing if a term is invalid.
func monomials(p polys.Poly) []monomial {
	var l []monomial
	for _, t := range p {
		if t.I < 0 || t.J < 0 || t.I > 12 || t.J > 12 || t.I+t.J > 12 {
			return nil
		}
		l = append(l, monomial{t.I, t.J, rat(fracs.Text(t.C))})
	}
	return l
}

// curve is a polynomial in t: its coefficients by ascending powers.
type curve []*big.Rat

// times returns a b.
func (a curve) times(b curve) curve {
	out := make(curve, len(a)+len(b)-1)
	for i := range out {
		out[i] = new(big.Rat)
	}
	for i, x := range a {
		for j, y := range b {
			out[i+j].Add(out[i+j], new(big.Rat).Mul(x, y))
		}
	}
	return out
}

// whole returns the integral of a over t from 0 to 1.
func (a curve) whole() *big.Rat {
	sum := new(big.Rat)
	for i, x := range a {
		sum.Add(sum, new(big.Rat).Mul(x, big.NewRat(1, int64(i)+1)))
	}
	return sum
}

// between returns a + t (b - a).
func between(a, b fracs.Frac) curve {
	x, y := rat(fracs.Text(a)), rat(fracs.Text(b))
	return curve{x, new(big.Rat).Sub(y, x)}
}

// powers returns the powers of a with the exponents 0 to n.
func (a curve) powers(n int) []curve {
	l := []curve{{rat("1")}}
	for i := range n {
		l = append(l, l[i].times(a))
	}
	return l
}

// along returns the integral of the sum of l from a to b, without the length.
func along(l []monomial, a, b [2]fracs.Frac) *big.Rat {
	i, j := 0, 0
	for _, m := range l {
		i, j = max(i, m.i), max(j, m.j)
	}
	sum, xs, ys := new(big.Rat), between(a[0], b[0]).powers(i), between(a[1], b[1]).powers(j)
	for _, m := range l {
		whole := xs[m.i].times(ys[m.j]).whole()
		sum.Add(sum, whole.Mul(whole, m.c))
	}
	return sum
}

// ring returns the integral of p over what the sides between successive points of l, and from the last to the first,
// enclose: by Green's theorem the sum of the integrals of q dy along the sides, where p is the derivative of q by x.
func ring(p polys.Poly, l ...[2]fracs.Frac) *big.Rat {
	q := monomials(p)
	for k, m := range q {
		q[k] = monomial{m.i + 1, m.j, new(big.Rat).Mul(m.c, big.NewRat(1, int64(m.i)+1))}
	}
	sum := new(big.Rat)
	for k, b := range l {
		a := l[(k+len(l)-1)%len(l)]
		sum.Add(sum, new(big.Rat).Mul(between(a[1], b[1])[1], along(q, a, b)))
	}
	return sum
}

// shown returns the terms of p as they are, which polys.Text does not.
func shown(p polys.Poly) string {
	var l []string
	for _, t := range p {
		l = append(l, fmt.Sprintf("%s x^%d y^%d", fracs.Text(t.C), t.I, t.J))
	}
	return "[" + strings.Join(l, ", ") + "]"
}

// places returns the points of l as text.
func places(l ...[2]fracs.Frac) string {
	var s []string
	for _, p := range l {
		s = append(s, "("+fracs.Text(p[0])+", "+fracs.Text(p[1])+")")
	}
	return strings.Join(s, ", ")
}

// want fails unless got is r.
func want(t *testing.T, what string, got fracs.Frac, r *big.Rat) {
	t.Helper()
	if got != frac(r) {
		t.Fatalf("%s: %s, want %s", what, fracs.Text(got), r.RatString())
	}
}

// equal fails unless a and b are equal.
func equal(t *testing.T, what string, a, b fracs.Frac) {
	t.Helper()
	if a != b {
		t.Fatalf("%s: %s and %s", what, fracs.Text(a), fracs.Text(b))
	}
}

// series is a sequence of numbers that is the same in each run.
type series struct{ state uint64 }

func (s *series) next() uint64 {
	s.state ^= s.state << 13
	s.state ^= s.state >> 7
	s.state ^= s.state << 17
	return s.state * 0x2545f4914f6cdd1d
}

// below returns a number from 0 to n - 1.
func (s *series) below(n int) int { return int(s.next() >> 1 % uint64(n)) }

// fraction returns a fraction of either sign, often an integer or 0.
func (s *series) fraction() fracs.Frac {
	return frac(big.NewRat(int64(s.below(13)-6), int64(1+s.below(4))))
}

// terms returns at most n terms of at most the given degree, in no order. Some may have the same powers, cancel, or
// be 0.
func (s *series) terms(n, degree int) polys.Poly {
	var p polys.Poly
	for range s.below(n + 1) {
		d := s.below(degree + 1)
		j := s.below(d + 1)
		p = append(p, polys.Term{I: d - j, J: j, C: s.fraction()})
		if s.below(4) == 0 {
			p = append(p, polys.Term{I: d - j, J: j, C: fracs.Neg(p[s.below(len(p))].C)})
		}
	}
	return p
}

// dense returns a polynomial of the degree d with all terms that it may have.
func dense(d int) polys.Poly {
	s := &series{uint64(d) + 901}
	var p polys.Poly
	for i := range d + 1 {
		for j := range d + 1 - i {
			p = append(p, polys.Term{I: i, J: j, C: fracs.Add(s.fraction(), read("1/7"))})
		}
	}
	return p
}

// invalid returns polynomials that represent 0, because one of their terms is invalid.
func invalid() []polys.Poly {
	return []polys.Poly{
		power(-1, 0), power(0, -1), power(13, 0), power(0, 13), power(6, 7), {term("0", 13, 0)}, power(20, -10),
		{term("1", 0, 0), term("1", 1, 0), term("0", 0, -1)}, {term("3", 1, 1), term("1", 12, 1)},
	}
}

// simple returns polynomials of low degrees: normalized ones, others, and invalid ones.
func simple() []polys.Poly {
	list := []polys.Poly{
		nil, {}, {term("0", 3, 4)}, power(0, 0), power(1, 0), power(0, 1), power(1, 1), power(2, 0), power(0, 2), {term("-5/3", 0, 0)},
		{term("1", 1, 0), term("-1", 1, 0)}, {term("1", 0, 1), term("1", 1, 0)}, {term("2", 1, 1), term("3", 1, 1), term("1", 0, 0)}, dense(2), dense(3),
	}
	s := &series{902}
	for i := range 8 {
		list = append(list, s.terms(5, 1+i%4))
	}
	return append(list, invalid()...)
}

// steep returns polynomials of the degrees 4 to 12.
func steep() []polys.Poly {
	list := []polys.Poly{power(12, 0), power(0, 12), power(6, 6), power(1, 11), {term("1", 12, 0), term("2", 3, 4), term("-1", 12, 0)}}
	for d := 4; d <= 12; d++ {
		list = append(list, dense(d))
	}
	return list
}

// spots returns points: at 0, beside it, in all quadrants, on common lines, and with long coordinates.
func spots() [][2]fracs.Frac {
	return [][2]fracs.Frac{
		at("0", "0"), at("1", "0"), at("0", "1"), at("2", "0"), at("-1/2", "3"), at("7/3", "-5/4"), at("-2", "-2/3"),
		at("18446744073709551617/3", "-1/18446744073709551615"),
	}
}

// triangles returns the triples of spots, among them those with the same point twice or three times.
func triangles() [][3][2]fracs.Frac {
	var l [][3][2]fracs.Frac
	for _, a := range spots() {
		for _, b := range spots() {
			for _, c := range spots() {
				l = append(l, [3][2]fracs.Frac{a, b, c})
			}
		}
	}
	return l
}

// polygons returns polygons of few and of many points: convex, with a dent, clockwise, with straight angles, with
// points more than once, and such as cross themselves.
func polygons() [][][2]fracs.Frac {
	square := [][2]fracs.Frac{at("0", "0"), at("2", "0"), at("2", "1"), at("0", "1")}
	list := [][][2]fracs.Frac{
		nil, {}, square[:1], square[:2], square[:3], square, {at("0", "0"), at("2", "0"), at("1", "1"), at("2", "2"), at("0", "2")},
		{at("1", "1"), at("2", "2"), at("0", "2"), at("0", "0"), at("2", "0")}, {at("0", "0"), at("1", "1"), at("1", "0"), at("0", "1")},
		{at("1", "1/2"), at("1", "1/2"), at("1", "1/2")}, {at("0", "0"), at("1", "0"), at("2", "0"), at("3", "0"), at("3", "2"), at("0", "0")}, spots(),
	}
	for _, l := range slices.Clone(list) {
		back := slices.Clone(l)
		slices.Reverse(back)
		list = append(list, back)
	}
	s := &series{903}
	for n := range 8 {
		var l [][2]fracs.Frac
		for range n + 3 {
			l = append(l, [2]fracs.Frac{s.fraction(), s.fraction()})
		}
		list = append(list, l)
	}
	return list
}
