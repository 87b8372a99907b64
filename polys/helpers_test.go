package polys_test

import (
	"fmt"
	"math/big"
	"slices"
	"strings"
	"testing"

	"gusset/api"
	"gusset/fracs"
	"gusset/polys"
)

// rat returns the fraction that s spells.
func rat(s string) *big.Rat {
	r, ok := new(big.Rat).SetString(s)
	if !ok {
		panic("no fraction: " + s)
	}
	return r
}

// frac returns the Frac of r.
func frac(r *big.Rat) fracs.Frac {
	a, e := fracs.Parse(r.RatString())
	if e != api.OK {
		panic("no Frac for a fraction in a test")
	}
	return a
}

// read returns the Frac that s spells.
func read(s string) fracs.Frac { return frac(rat(s)) }

// term returns the term with the coefficient that c spells.
func term(c string, i, j int) polys.Term { return polys.Term{I: i, J: j, C: read(c)} }

// model is a polynomial: its coefficients by the exponents of x and y, none of them 0.
type model map[[2]int]*big.Rat

// plus adds c x^i y^j to m.
func (m model) plus(i, j int, c *big.Rat) {
	at := [2]int{i, j}
	if m[at] == nil {
		m[at] = new(big.Rat)
	}
	m[at] = new(big.Rat).Add(m[at], c)
	if m[at].Sign() == 0 {
		delete(m, at)
	}
}

// modelOf returns what p represents as an argument, by the definition.
func modelOf(p polys.Poly) model {
	m := model{}
	for _, t := range p {
		if t.I < 0 || t.J < 0 || t.I > 12 || t.J > 12 || t.I+t.J > 12 {
			return model{}
		}
		m.plus(t.I, t.J, rat(fracs.Text(t.C)))
	}
	return m
}

// poly returns the normalized polynomial of m.
func (m model) poly() polys.Poly {
	var p polys.Poly
	for d := range 13 {
		for j := range d + 1 {
			if c := m[[2]int{d - j, j}]; c != nil {
				p = append(p, polys.Term{I: d - j, J: j, C: frac(c)})
			}
		}
	}
	return p
}

// degree returns the greatest sum of exponents, or -1.
func (m model) degree() int {
	d := -1
	for at := range m {
		d = max(d, at[0]+at[1])
	}
	return d
}

// at returns the value of m at (x, y).
func (m model) at(x, y *big.Rat) *big.Rat {
	v := new(big.Rat)
	for at, c := range m {
		v.Add(v, product(c, power(x, at[0]), power(y, at[1])))
	}
	return v
}

// combined returns m + c n.
func (m model) combined(c *big.Rat, n model) model {
	out := model{}
	for at, a := range m {
		out.plus(at[0], at[1], a)
	}
	for at, a := range n {
		out.plus(at[0], at[1], product(c, a))
	}
	return out
}

// times returns m n.
func (m model) times(n model) model {
	out := model{}
	for p, a := range m {
		for q, b := range n {
			out.plus(p[0]+q[0], p[1]+q[1], product(a, b))
		}
	}
	return out
}

// power returns m to the power n.
func (m model) power(n int) model {
	out := model{{0, 0}: rat("1")}
	for range n {
		out = out.times(m)
	}
	return out
}

// dx returns the derivative by x.
func (m model) dx() model {
	out := model{}
	for at, a := range m {
		if at[0] > 0 {
			out.plus(at[0]-1, at[1], product(a, big.NewRat(int64(at[0]), 1)))
		}
	}
	return out
}

// turned returns m with x and y interchanged.
func (m model) turned() model {
	out := model{}
	for at, a := range m {
		out.plus(at[1], at[0], a)
	}
	return out
}

// dy returns the derivative by y.
func (m model) dy() model { return m.turned().dx().turned() }

// shifted returns m with x replaced by l[0] x + l[1] y + l[2], and y by l[3] x + l[4] y + l[5].
func (m model) shifted(l [6]*big.Rat) model {
	u, v, out := linear(l[0], l[1], l[2]), linear(l[3], l[4], l[5]), model{}
	for at, c := range m {
		out = out.combined(c, u.power(at[0]).times(v.power(at[1])))
	}
	return out
}

// linear returns a x + b y + c.
func linear(a, b, c *big.Rat) model {
	m := model{}
	m.plus(1, 0, a)
	m.plus(0, 1, b)
	m.plus(0, 0, c)
	return m
}

// product returns the product of its arguments.
func product(l ...*big.Rat) *big.Rat {
	p := rat("1")
	for _, r := range l {
		p = new(big.Rat).Mul(p, r)
	}
	return p
}

// power returns r to the power n.
func power(r *big.Rat, n int) *big.Rat {
	return product(slices.Repeat([]*big.Rat{r}, n)...)
}

// shown returns the terms of p as they are, which polys.Text does not.
func shown(p polys.Poly) string {
	var l []string
	for _, t := range p {
		l = append(l, fmt.Sprintf("%s x^%d y^%d", fracs.Text(t.C), t.I, t.J))
	}
	return "[" + strings.Join(l, ", ") + "]"
}

// want fails unless got is the normalized polynomial of m, without memory behind its end.
func want(t *testing.T, what string, got polys.Poly, m model) {
	t.Helper()
	if !slices.Equal(got, m.poly()) {
		t.Fatalf("%s: %s, want %s", what, shown(got), shown(m.poly()))
	}
	if !polys.Ok(got) || cap(got) != len(got) {
		t.Fatalf("%s: Ok %t, length %d, capacity %d", what, polys.Ok(got), len(got), cap(got))
	}
}

// wantCode fails unless got is code, and the polynomial is empty if code is an error, and that of m otherwise.
func wantCode(t *testing.T, what string, p polys.Poly, got, code api.Errno, m model) {
	t.Helper()
	if got != code {
		t.Fatalf("%s: error %d, want %d", what, got, code)
	}
	if code != api.OK {
		m = model{}
	}
	want(t, what, p, m)
}

// series is a sequence of numbers that is the same in each run.
type series struct{ state uint64 }

func (s *series) next() uint64 {
	s.state ^= s.state << 13
	s.state ^= s.state >> 7
	s.state ^= s.state << 17
	return s.state * 0x2545f4914f6cdd1d
}

// below returns a number from 0 to n - 1.
func (s *series) below(n int) int { return int(s.next() >> 1 % uint64(n)) }

// fraction returns a fraction of either sign, often an integer or 0, and sometimes a long one.
func (s *series) fraction() *big.Rat {
	n, d := int64(s.below(13)-6), int64(1+s.below(4))
	if s.below(10) == 0 {
		n, d = int64(s.next()), int64(1+s.next()>>1)
	}
	return big.NewRat(n, d)
}

// terms returns at most n terms of at most the given degree, in no order. Some may have the same powers, cancel, or
// be 0.
func (s *series) terms(n, degree int) polys.Poly {
	var p polys.Poly
	for range s.below(n + 1) {
		d := s.below(degree + 1)
		j := s.below(d + 1)
		p = append(p, polys.Term{I: d - j, J: j, C: frac(s.fraction())})
		if s.below(4) == 0 {
			p = append(p, polys.Term{I: d - j, J: j, C: fracs.Neg(p[s.below(len(p))].C)})
		}
	}
	return p
}

// dense returns a polynomial of the degree d with all terms that it may have.
func dense(d int) polys.Poly {
	s := &series{uint64(d) + 801}
	m := model{}
	for i := range d + 1 {
		for j := range d + 1 - i {
			m.plus(i, j, s.fraction())
			m.plus(i, j, rat("1/7"))
		}
	}
	return m.poly()
}

// invalid returns polynomials that represent 0, because one of their terms is invalid.
func invalid() []polys.Poly {
	return []polys.Poly{
		{term("1", -1, 0)}, {term("1", 0, -1)}, {term("1", 13, 0)}, {term("1", 0, 13)}, {term("2", 6, 7)}, {term("0", 13, 0)},
		{term("1", 0, 0), term("1", 1, 0), term("0", 0, -1)}, {term("3", 1, 1), term("0", 12, 1)}, {term("1", 20, -10)},
	}
}

// arguments returns polynomials that are normalized, that are not, and that are invalid; 0 in several forms, constants,
// and dense and sparse ones of all degrees among them.
func arguments() []polys.Poly {
	list := []polys.Poly{
		nil, {}, {term("0", 3, 4)}, {term("1", 0, 0)}, {term("-1", 0, 0)}, {term("5/3", 0, 0)}, {term("1", 1, 0)}, {term("1", 0, 1)},
		{term("1", 12, 0)}, {term("-1", 0, 12)}, {term("2/3", 6, 6)}, {term("1", 1, 0), term("-1", 1, 0)}, {term("1/2", 6, 0), term("1", 0, 0)},
		{term("1", 5, 5), term("1", 0, 0), term("-1", 5, 5)}, {term("1", 0, 1), term("1", 1, 0)}, {term("2", 1, 1), term("3", 1, 1)},
	}
	list = append(list, invalid()...)
	for d := range 13 {
		list = append(list, dense(d))
	}
	s := &series{802}
	for i := range 40 {
		list = append(list, s.terms(1+i%9, i%13))
	}
	return list
}
