package rules_test

import (
	"fmt"
	"math/big"
	"strings"
	"testing"

	"gusset/api"
	"gusset/fracs"
	"gusset/polys"
	"gusset/rules"
)

// rat returns the fraction that s spells.
func rat(s string) *big.Rat {
	r, ok := new(big.Rat).SetString(s)
	if !ok {
		panic("no fraction: " + s)
	}
	return r
}

// frac returns the Frac of r.
func frac(r *big.Rat) fracs.Frac {
	a, e := fracs.Parse(r.RatString())
	if e != api.OK {
		panic("no Frac for a fraction in a test")
	}
	return a
}

// read returns the Frac that s spells.
func read(s string) fracs.Frac { return frac(rat(s)) }

// list returns the fractions that the words of s spell.
func list(s string) []fracs.Frac {
	var l []fracs.Frac
	for _, w := range strings.Fields(s) {
		l = append(l, read(w))
	}
	return l
}

// at returns the point with the coordinates that x and y spell.
func at(x, y string) [2]fracs.Frac { return [2]fracs.Frac{read(x), read(y)} }

// rule returns the rule with those points, each spelled as three coordinates, and those weights.
func rule(weights string, points ...string) rules.Rule {
	r := rules.Rule{Weights: list(weights)}
	for _, p := range points {
		r.Points = append(r.Points, [3]fracs.Frac(list(p)))
	}
	return r
}

// line returns the line with those positions and weights.
func line(at, weights string) rules.Line { return rules.Line{At: list(at), Weights: list(weights)} }

// term returns the term with the coefficient that c spells.
func term(c string, i, j int) polys.Term { return polys.Term{I: i, J: j, C: read(c)} }

// power returns x^i y^j.
func power(i, j int) polys.Poly { return polys.Poly{term("1", i, j)} }

// raise returns a^n.
func raise(a *big.Rat, n int) *big.Rat {
	p := rat("1")
	for range n {
		p.Mul(p, a)
	}
	return p
}

// value returns the value of p, as an argument, at (x, y): 0 if a term is invalid.
func value(p polys.Poly, x, y *big.Rat) *big.Rat {
	sum := new(big.Rat)
	for _, t := range p {
		if t.I < 0 || t.J < 0 || t.I > 12 || t.J > 12 || t.I+t.J > 12 {
			return new(big.Rat)
		}
		v := rat(fracs.Text(t.C))
		sum.Add(sum, v.Mul(v, raise(x, t.I)).Mul(v, raise(y, t.J)))
	}
	return sum
}

// numbers returns the fractions of l.
func numbers(l ...fracs.Frac) []*big.Rat {
	out := make([]*big.Rat, len(l))
	for i, a := range l {
		out[i] = rat(fracs.Text(a))
	}
	return out
}

// moment returns 2 i! j! k! / (i + j + k + 2)!.
func moment(i, j, k int) *big.Rat {
	product := func(n int) *big.Int { return new(big.Int).MulRange(1, int64(n)) }
	above := product(i)
	above.Mul(above, product(j)).Mul(above, product(k)).Lsh(above, 1)
	return new(big.Rat).SetFrac(above, product(i+j+k+2))
}

// exact reports whether a rule, whose validity is not looked at, is exact for the degree d.
func exact(r rules.Rule, d int) bool {
	for i := 0; i <= d; i++ {
		for j := 0; i+j <= d; j++ {
			sum := new(big.Rat)
			for n, w := range numbers(r.Weights...) {
				p := numbers(r.Points[n][:]...)
				sum.Add(sum, w.Mul(w, raise(p[0], i)).Mul(w, raise(p[1], j)).Mul(w, raise(p[2], d-i-j)))
			}
			if sum.Cmp(moment(i, j, d-i-j)) != 0 {
				return false
			}
		}
	}
	return true
}

// exactLine reports whether a line, whose validity is not looked at, is exact for the degree d.
func exactLine(l rules.Line, d int) bool {
	sum, at := new(big.Rat), numbers(l.At...)
	for n, w := range numbers(l.Weights...) {
		sum.Add(sum, w.Mul(w, raise(at[n], d)))
	}
	return sum.Cmp(big.NewRat(1, int64(d)+1)) == 0
}

// shown returns the terms of p as they are, which polys.Text does not.
func shown(p polys.Poly) string {
	var l []string
	for _, t := range p {
		l = append(l, fmt.Sprintf("%s x^%d y^%d", fracs.Text(t.C), t.I, t.J))
	}
	return "[" + strings.Join(l, ", ") + "]"
}

// text returns the fractions of l.
func text(l []fracs.Frac) string {
	var s []string
	for _, a := range l {
		s = append(s, fracs.Text(a))
	}
	return strings.Join(s, " ")
}

// points returns the points of r as text.
func points(r rules.Rule) string {
	var s []string
	for _, p := range r.Points {
		s = append(s, "("+text(p[:])+")")
	}
	return strings.Join(s, " ")
}

// shownRule returns r as text.
func shownRule(r rules.Rule) string { return points(r) + " with " + text(r.Weights) }

// shownLine returns l as text.
func shownLine(l rules.Line) string { return "[" + text(l.At) + "] with " + text(l.Weights) }

// places returns the points of l as text.
func places(l ...[2]fracs.Frac) string {
	var s []string
	for _, p := range l {
		s = append(s, "("+text(p[:])+")")
	}
	return strings.Join(s, ", ")
}

// want fails unless got is r.
func want(t *testing.T, what string, got fracs.Frac, r *big.Rat) {
	t.Helper()
	if got != frac(r) {
		t.Fatalf("%s: %s, want %s", what, fracs.Text(got), r.RatString())
	}
}

// equal fails unless a and b are equal.
func equal(t *testing.T, what string, a, b fracs.Frac) {
	t.Helper()
	if a != b {
		t.Fatalf("%s: %s and %s", what, fracs.Text(a), fracs.Text(b))
	}
}

// series is a sequence of numbers that is the same in each run.
type series struct{ state uint64 }

func (s *series) next() uint64 {
	s.state ^= s.state << 13
	s.state ^= s.state >> 7
	s.state ^= s.state << 17
	return s.state * 0x2545f4914f6cdd1d
}

// below returns a number from 0 to n - 1.
func (s *series) below(n int) int { return int(s.next() >> 1 % uint64(n)) }

// fraction returns a fraction of either sign, often an integer or 0.
func (s *series) fraction() fracs.Frac {
	return frac(big.NewRat(int64(s.below(13)-6), int64(1+s.below(4))))
}

// rule returns a valid rule with n points, inside and outside the triangle, some of them twice.
func (s *series) rule(n int) rules.Rule {
	var r rules.Rule
	for range n {
		a, b := s.fraction(), s.fraction()
		p := [3]fracs.Frac{a, b, fracs.Sub(read("1"), fracs.Add(a, b))}
		if len(r.Points) > 0 && s.below(4) == 0 {
			p = r.Points[s.below(len(r.Points))]
		}
		r.Points, r.Weights = append(r.Points, p), append(r.Weights, s.fraction())
	}
	return r
}

// line returns a valid line with n positions on the segment and beside it.
func (s *series) line(n int) rules.Line {
	var l rules.Line
	for range n {
		l.At, l.Weights = append(l.At, s.fraction()), append(l.Weights, s.fraction())
	}
	return l
}

// dense returns a polynomial of the degree d with all terms that it may have.
func dense(d int) polys.Poly {
	s := &series{uint64(d) + 1001}
	var p polys.Poly
	for i := range d + 1 {
		for j := range d + 1 - i {
			p = append(p, polys.Term{I: i, J: j, C: fracs.Add(s.fraction(), read("1/7"))})
		}
	}
	return p
}

// some returns polynomials: normalized ones, others, and invalid ones, which represent 0.
func some() []polys.Poly {
	return []polys.Poly{
		nil, {}, {term("0", 3, 4)}, power(0, 0), power(1, 0), power(0, 1), power(1, 1), {term("-5/3", 0, 0)}, {term("1", 1, 0), term("-1", 1, 0)},
		{term("1", 0, 1), term("1", 1, 0)}, {term("2", 1, 1), term("3", 1, 1), term("1", 0, 0)}, dense(2), dense(3), dense(12), power(12, 0), power(1, 11),
		power(-1, 0), power(0, -1), power(13, 0), power(6, 7), {term("1", 0, 0), term("0", 0, -1)}, {term("3", 1, 1), term("0", 12, 1)},
	}
}

// spots returns points: at 0, beside it, in all quadrants, on common lines, and with long coordinates.
func spots() [][2]fracs.Frac {
	return [][2]fracs.Frac{
		at("0", "0"), at("1", "0"), at("0", "1"), at("2", "0"), at("-1/2", "3"), at("7/3", "-5/4"), at("-2", "-2/3"),
		at("18446744073709551617/3", "-1/18446744073709551615"),
	}
}

// triangles returns triples of spots in either order, among them those with the same point twice or three times.
func triangles() [][3][2]fracs.Frac {
	var l [][3][2]fracs.Frac
	n := 0
	for _, a := range spots() {
		for _, b := range spots() {
			for _, c := range spots() {
				if n++; n%7 == 1 {
					l = append(l, [3][2]fracs.Frac{a, b, c})
				}
			}
		}
	}
	return l
}

// lattices returns all rules that Lattice makes.
func lattices() []rules.Rule {
	var l []rules.Rule
	for n := 1; n <= 6; n++ {
		r, e := rules.Lattice(n)
		if e != api.OK {
			panic(fmt.Sprintf("Lattice(%d): error %d", n, e))
		}
		l = append(l, r)
	}
	return l
}

// cotes returns all lines that Cotes makes.
func cotes() []rules.Line {
	var list []rules.Line
	for n := 1; n <= 8; n++ {
		l, e := rules.Cotes(n)
		if e != api.OK {
			panic(fmt.Sprintf("Cotes(%d): error %d", n, e))
		}
		list = append(list, l)
	}
	return list
}

// closed returns the closed Newton-Cotes rule with n + 1 positions, for any n, by the solution of the equations that
// say for which degrees it is exact.
func closed(n int) rules.Line {
	var rows [][]*big.Rat
	for d := range n + 1 {
		var row []*big.Rat
		for m := range n + 1 {
			row = append(row, raise(big.NewRat(int64(m), int64(n)), d))
		}
		rows = append(rows, append(row, big.NewRat(1, int64(d)+1)))
	}
	var l rules.Line
	for m, w := range solved(rows) {
		l.At, l.Weights = append(l.At, frac(big.NewRat(int64(m), int64(n)))), append(l.Weights, frac(w))
	}
	return l
}

// solved returns the solution of the equations whose coefficients and right sides are rows, by elimination.
func solved(rows [][]*big.Rat) []*big.Rat {
	for c := range rows {
		for r := c; rows[c][c].Sign() == 0; r++ {
			rows[c], rows[r] = rows[r], rows[c]
		}
		inverse := new(big.Rat).Inv(rows[c][c])
		for _, x := range rows[c] {
			x.Mul(x, inverse)
		}
		for r, row := range rows {
			factor := new(big.Rat).Set(row[c])
			for k, x := range row {
				if r != c {
					x.Sub(x, new(big.Rat).Mul(factor, rows[c][k]))
				}
			}
		}
	}
	var solution []*big.Rat
	for _, row := range rows {
		solution = append(solution, row[len(rows)])
	}
	return solution
}

// conical returns the rule with a point of a line on each of the parallels to a side through the points of a line on
// another side. It is exact for the degrees below that up to which the line is exact, at least.
func conical(n int) rules.Rule {
	var r rules.Rule
	l, one := closed(n), read("1")
	for i, x := range l.At {
		rest := fracs.Sub(one, x)
		for j, s := range l.At {
			y := fracs.Mul(rest, s)
			r.Points = append(r.Points, [3]fracs.Frac{fracs.Sub(rest, y), x, y})
			r.Weights = append(r.Weights, fracs.Mul(fracs.Mul(read("2"), rest), fracs.Mul(l.Weights[i], l.Weights[j])))
		}
	}
	return r
}
