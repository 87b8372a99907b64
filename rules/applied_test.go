package rules_test

import (
	"math/big"
	"testing"

	"gusset/fracs"
	"gusset/polys"
	"gusset/rules"
)

// blend returns the sum of the shares, each times the coordinate of its vertex.
func blend(shares [3]fracs.Frac, a, b, c fracs.Frac) *big.Rat {
	sum, vertices := new(big.Rat), numbers(a, b, c)
	for i, s := range numbers(shares[:]...) {
		sum.Add(sum, s.Mul(s, vertices[i]))
	}
	return sum
}

// applied is the definition of Apply.
func applied(r rules.Rule, p polys.Poly, a, b, c [2]fracs.Frac) *big.Rat {
	sum := new(big.Rat)
	for i, w := range numbers(r.Weights...) {
		s := r.Points[i]
		sum.Add(sum, w.Mul(w, value(p, blend(s, a[0], b[0], c[0]), blend(s, a[1], b[1], c[1]))))
	}
	u, v, o := numbers(b[:]...), numbers(c[:]...), numbers(a[:]...)
	for k := range 2 {
		u[k].Sub(u[k], o[k])
		v[k].Sub(v[k], o[k])
	}
	area := new(big.Rat).Sub(u[0].Mul(u[0], v[1]), v[0].Mul(v[0], u[1]))
	return sum.Mul(sum, area).Mul(sum, big.NewRat(1, 2))
}

// appliedLine is the definition of ApplyLine.
func appliedLine(l rules.Line, p polys.Poly, a, b [2]fracs.Frac) *big.Rat {
	sum, at := new(big.Rat), numbers(l.At...)
	for i, w := range numbers(l.Weights...) {
		var spot [2]*big.Rat
		for k := range spot {
			ends := numbers(a[k], b[k])
			spot[k] = new(big.Rat).Sub(ends[1], ends[0])
			spot[k].Mul(spot[k], at[i]).Add(spot[k], ends[0])
		}
		sum.Add(sum, w.Mul(w, value(p, spot[0], spot[1])))
	}
	return sum
}

// tools returns valid rules: those of Lattice, and others.
func tools() []rules.Rule {
	list := append(lattices(), rules.Rule{}, rules.Rule{Points: [][3]fracs.Frac{}, Weights: []fracs.Frac{}}, rule("1", "1/3 1/3 1/3"), rule("1", "1 0 0"),
		rule("2", "0 1 0"), rule("3", "0 0 1"), rule("-5/2", "3 -1 -1"), rule("0", "1/2 1/3 1/6"), rule("1 1 -1", "1/2 1/3 1/6", "1/2 1/3 1/6", "1/6 1/3 1/2"))
	s := &series{21}
	for n := range 6 {
		list = append(list, s.rule(n+1))
	}
	return list
}

// P10.3: Apply, for all kinds of rules, polynomials and triangles.
func TestApply(t *testing.T) {
	for n, r := range tools() {
		for k, p := range some() {
			for i, x := range triangles() {
				if i%17 != (n+k)%17 {
					continue
				}
				a, b, c := x[0], x[1], x[2]
				want(t, shownRule(r)+" for "+shown(p)+" over "+places(a, b, c), rules.Apply(r, p, a, b, c), applied(r, p, a, b, c))
			}
		}
	}
}

// P10.3: a clockwise triangle negates, one without area gives 0, and the coordinates belong to the vertices in order.
func TestApplySigns(t *testing.T) {
	a, b, c, far := at("0", "0"), at("3", "0"), at("0", "3"), at("6", "0")
	middle, x := rule("1", "1/3 1/3 1/3"), power(1, 0)
	for _, y := range []struct {
		what string
		got  fracs.Frac
		want string
	}{
		{"x by the centroid", rules.Apply(middle, x, a, b, c), "9/2"},
		{"x^2 by the centroid", rules.Apply(middle, power(2, 0), a, b, c), "9/2"},
		{"clockwise", rules.Apply(middle, x, a, c, b), "-9/2"},
		{"without area", rules.Apply(middle, x, a, b, far), "0"},
		{"a point only", rules.Apply(middle, x, b, b, b), "0"},
		{"1, whatever the points", rules.Apply(rule("2 1", "9 -9 1", "0 0 1"), power(0, 0), a, b, c), "27/2"},
		{"the first vertex", rules.Apply(rule("1", "1 0 0"), x, b, c, a), "27/2"},
		{"the second vertex", rules.Apply(rule("1", "0 1 0"), x, a, b, c), "27/2"},
		{"the third vertex", rules.Apply(rule("1", "0 0 1"), power(0, 1), a, b, c), "27/2"},
		{"beyond the triangle", rules.Apply(rule("1", "-1 2 0"), x, a, b, c), "27"},
	} {
		if got := fracs.Text(y.got); got != y.want {
			t.Errorf("%s: %s, want %s", y.what, got, y.want)
		}
	}
}

// P10.3: no rule that is not valid applies.
func TestApplyInvalid(t *testing.T) {
	for _, r := range invalid() {
		for _, p := range some() {
			want(t, shownRule(r)+" for "+shown(p), rules.Apply(r, p, at("0", "0"), at("3", "0"), at("1", "2")), new(big.Rat))
		}
	}
}

// rods returns valid lines: those of Cotes, and others.
func rods() []rules.Line {
	list := append(cotes(), rules.Line{}, rules.Line{At: []fracs.Frac{}}, line("1/2", "1"), line("0", "2"), line("1", "-3"), line("-1/2 7/3", "4 0"), line("2/3 2/3", "1 1"))
	s := &series{22}
	for n := range 6 {
		list = append(list, s.line(n+1))
	}
	return list
}

// P10.3: ApplyLine, for all kinds of lines, polynomials and segments; it does not depend on a length.
func TestApplyLine(t *testing.T) {
	for n, l := range rods() {
		for k, p := range some() {
			for i, a := range spots() {
				for j, b := range spots() {
					if (i+3*j)%5 == (n+k)%5 {
						want(t, shownLine(l)+" for "+shown(p)+" on "+places(a, b), rules.ApplyLine(l, p, a, b), appliedLine(l, p, a, b))
					}
				}
			}
		}
	}
}

// crooked returns lines that are not valid.
func crooked() []rules.Line {
	return []rules.Line{line("", "1"), line("", "0 0"), line("0", ""), line("0 1/2 1", ""), line("0 1", "1/2"), line("0", "1/2 1/2"), line("0 1/2 1", "1/6 2/3 1/6 0"), line("1/2 0", "1")}
}

// P10.3: no line that is not valid applies.
func TestApplyLineInvalid(t *testing.T) {
	for _, l := range crooked() {
		for _, p := range some() {
			want(t, shownLine(l)+" for "+shown(p), rules.ApplyLine(l, p, at("0", "0"), at("3", "1")), new(big.Rat))
		}
	}
}
