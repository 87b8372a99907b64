package rules_test

import (
	"testing"

	"gusset/fracs"
	"gusset/integrals"
	"gusset/polys"
	"gusset/rules"
)

// P10.6: a rule that is exact up to d integrates the polynomials of at most that degree over every triangle.
func TestIntegrals(t *testing.T) {
	for n, r := range append(lattices(), rule("1", "1/3 1/3 1/3"), rule("1/3 1/3 1/3", "2/3 1/6 1/6", "1/6 2/3 1/6", "1/6 1/6 2/3"), conical(4)) {
		for d := range rules.Exact(r) + 1 {
			for _, p := range []polys.Poly{dense(d), power(d, 0), power(0, d), power(d/2, d-d/2)} {
				for i, x := range triangles() {
					if i%5 == (n+d)%5 {
						a, b, c := x[0], x[1], x[2]
						equal(t, shownRule(r)+" for "+shown(p)+" over "+places(a, b, c), rules.Apply(r, p, a, b, c), integrals.Tri(p, a, b, c))
					}
				}
			}
		}
	}
}

// P10.6: beyond the greatest degree there is a polynomial that it does not integrate.
func TestGreatestDegree(t *testing.T) {
	for _, r := range lattices() {
		d, wrong := rules.Exact(r)+1, false
		for i := range d + 1 {
			p := power(i, d-i)
			wrong = wrong || rules.Apply(r, p, at("0", "0"), at("1", "0"), at("0", "1")) != integrals.Tri(p, at("0", "0"), at("1", "0"), at("0", "1"))
		}
		if !wrong {
			t.Errorf("%s integrates the degree %d too", shownRule(r), d)
		}
	}
	for _, l := range cotes() {
		p := power(rules.ExactLine(l)+1, 0)
		if rules.ApplyLine(l, p, at("0", "0"), at("1", "0")) == integrals.Seg(p, at("0", "0"), at("1", "0")) {
			t.Errorf("%s integrates %s too", shownLine(l), shown(p))
		}
	}
}

// P10.6: a line that is exact up to d integrates the polynomials of at most that degree over every segment.
func TestIntegralsAlongSegments(t *testing.T) {
	for _, l := range append(cotes(), line("1/2", "1"), line("0 2/3", "1/4 3/4"), closed(12)) {
		for d := range rules.ExactLine(l) + 1 {
			for _, p := range []polys.Poly{dense(d), power(d, 0), power(0, d), power(d/2, d-d/2)} {
				for i, a := range spots() {
					b := spots()[(i+1+d%4)%len(spots())]
					equal(t, shownLine(l)+" for "+shown(p)+" on "+places(a, b), rules.ApplyLine(l, p, a, b), integrals.Seg(p, a, b))
				}
			}
		}
	}
}

// P10.6: the weights of a lattice rule add up to 1, and are the same at points with the same coordinates.
func TestLatticeIsSymmetric(t *testing.T) {
	for n, r := range lattices() {
		equal(t, "the sum of the weights", fracs.Sum(r.Weights...), read("1"))
		weights := map[[3]fracs.Frac]fracs.Frac{}
		for i, p := range r.Points {
			weights[p] = r.Weights[i]
		}
		for p, w := range weights {
			for _, q := range [][3]fracs.Frac{{p[0], p[2], p[1]}, {p[1], p[0], p[2]}, {p[1], p[2], p[0]}, {p[2], p[0], p[1]}, {p[2], p[1], p[0]}} {
				if other, ok := weights[q]; !ok || other != w {
					t.Errorf("Lattice(%d): %s at (%s), %s at (%s)", n+1, fracs.Text(w), text(p[:]), fracs.Text(other), text(q[:]))
				}
			}
		}
	}
}

// P10.6: for even n, Cotes(n) is exact for all degrees up to n + 1.
func TestEvenCotes(t *testing.T) {
	for i, l := range cotes() {
		if n := i + 1; rules.ExactLine(l) != n+1-n%2 {
			t.Errorf("Cotes(%d) is exact up to %d", n, rules.ExactLine(l))
		}
		equal(t, "the sum of the weights", fracs.Sum(l.Weights...), read("1"))
		for m, w := range l.Weights {
			equal(t, "weights at the same distance from the middle", w, l.Weights[len(l.Weights)-1-m])
		}
	}
}
