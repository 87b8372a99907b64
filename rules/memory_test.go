package rules_test

import (
	"slices"
	"testing"

	"gusset/fracs"
	"gusset/polys"
	"gusset/rules"
)

// calls returns what the functions that take slices make of r, l and p.
func calls(r rules.Rule, l rules.Line, p polys.Poly) []fracs.Frac {
	a, b, c := at("1", "2"), at("5", "-1/3"), at("6", "6")
	return []fracs.Frac{
		fracs.Int(int64(rules.Check(r))), fracs.Int(int64(rules.Exact(r))), fracs.Int(int64(rules.ExactLine(l))),
		rules.Apply(r, p, a, b, c), rules.Apply(r, p, a, c, b), rules.ApplyLine(l, p, a, b), rules.ApplyLine(l, p, c, a),
	}
}

// roomy returns l in a slice that is a part of a longer one, filled with other, and that longer one.
func roomy[T any](l []T, other T) ([]T, []T) {
	all := slices.Concat([]T{other}, l, slices.Repeat([]T{other}, 3*len(l)+4))
	return all[1 : 1+len(l)], all
}

// P10.5, R1: no function changes its arguments, nor the memory beside them, and a second run is the same.
func TestArgumentsStay(t *testing.T) {
	for n, r := range append(tools(), invalid()...) {
		for k, l := range append(rods(), crooked()...) {
			if n%3 != k%3 {
				continue
			}
			x := some()[(n+k)%len(some())]
			p, allP := roomy(x, term("9", 1, 3))
			points, allPoints := roomy(r.Points, [3]fracs.Frac(list("3 3 -5")))
			weights, allWeights := roomy(r.Weights, read("77"))
			at, allAt := roomy(l.At, read("78"))
			other, allOther := roomy(l.Weights, read("79"))
			beforeP, beforePoints := slices.Clone(allP), slices.Clone(allPoints)
			beforeWeights, beforeAt, beforeOther := slices.Clone(allWeights), slices.Clone(allAt), slices.Clone(allOther)
			first := calls(rules.Rule{Points: points, Weights: weights}, rules.Line{At: at, Weights: other}, p)
			if !slices.Equal(calls(r, l, x), first) {
				t.Fatalf("a second run for %s and %s differs", shownRule(r), shownLine(l))
			}
			if !slices.Equal(allP, beforeP) || !slices.Equal(allPoints, beforePoints) || !slices.Equal(allWeights, beforeWeights) {
				t.Fatalf("an argument has changed: %s or %s", shownRule(r), shown(x))
			}
			if !slices.Equal(allAt, beforeAt) || !slices.Equal(allOther, beforeOther) {
				t.Fatalf("an argument has changed: %s", shownLine(l))
			}
		}
	}
}

// R3: nil and empty slices are the same argument.
func TestNil(t *testing.T) {
	for _, r := range []rules.Rule{rule("1", "1/3 1/3 1/3"), rule("1"), rule("", "1 0 0"), {}} {
		for _, l := range []rules.Line{line("1/2", "1"), line("1/2", ""), line("", "1"), {}} {
			full, empty, none := r, rules.Rule{Points: [][3]fracs.Frac{}, Weights: []fracs.Frac{}}, rules.Line{At: []fracs.Frac{}, Weights: []fracs.Frac{}}
			full.Points, full.Weights = append(empty.Points, r.Points...), append(empty.Weights, r.Weights...)
			none.At, none.Weights = append(none.At, l.At...), append(none.Weights, l.Weights...)
			if !slices.Equal(calls(r, l, nil), calls(full, none, polys.Poly{})) {
				t.Errorf("nil and empty slices differ for %s or %s", shownRule(r), shownLine(l))
			}
		}
	}
}

// P10.5, R4: results are new, without room behind them, and do not depend on what was done to earlier ones.
func TestResultsAreNew(t *testing.T) {
	for n := 1; n <= 6; n++ {
		first, _ := rules.Lattice(n)
		before := shownRule(first)
		if cap(first.Points) != len(first.Points) || cap(first.Weights) != len(first.Weights) {
			t.Errorf("Lattice(%d): room behind the result", n)
		}
		for i := range first.Points {
			first.Points[i], first.Weights[i] = [3]fracs.Frac(list("7 8 9")), read("77")
		}
		if second, _ := rules.Lattice(n); shownRule(second) != before {
			t.Errorf("Lattice(%d): a second run differs: %s", n, shownRule(second))
		}
	}
	for n := 1; n <= 8; n++ {
		first, _ := rules.Cotes(n)
		before := shownLine(first)
		if cap(first.At) != len(first.At) || cap(first.Weights) != len(first.Weights) {
			t.Errorf("Cotes(%d): room behind the result", n)
		}
		for i := range first.At {
			first.At[i] = read("77")
		}
		if !exactLine(rules.Line{At: closed(n).At, Weights: first.Weights}, n) {
			t.Errorf("Cotes(%d): the weights share the memory of the positions", n)
		}
		for i := range first.Weights {
			first.Weights[i] = read("78")
		}
		if second, _ := rules.Cotes(n); shownLine(second) != before {
			t.Errorf("Cotes(%d): a second run differs: %s", n, shownLine(second))
		}
	}
}
