package integrals_test

import (
	"slices"
	"testing"

	"gusset/fracs"
	"gusset/integrals"
	"gusset/polys"
)

// calls returns what the functions that take slices make of p, q and l.
func calls(p, q polys.Poly, l [][2]fracs.Frac) []fracs.Frac {
	a, b, c := at("1", "2"), at("5", "-1/3"), at("6", "6")
	return []fracs.Frac{
		integrals.Tri(p, a, b, c), integrals.Tri(q, a, b, c), integrals.Polygon(p, l...), integrals.Polygon(q, l...), integrals.Seg(p, a, b), integrals.Seg(q, c, b),
		integrals.Flow(p, q, a, b), integrals.Flow(q, p, a, b), integrals.Flow(p, p, a, c),
	}
}

// roomy returns l in a slice that is a part of a longer one, filled with other, and that longer one.
func roomy[T any](l []T, other T) ([]T, []T) {
	all := slices.Concat([]T{other}, l, slices.Repeat([]T{other}, 3*len(l)+4))
	return all[1 : 1+len(l)], all
}

// R1: no function changes its arguments, nor the memory beside them, and a second run is the same.
func TestArgumentsStay(t *testing.T) {
	for n, x := range append(simple(), dense(12)) {
		for k, y := range few() {
			for i, z := range polygons() {
				if i%16 != (n+k)%16 {
					continue
				}
				p, allP := roomy(x, term("9", 1, 3))
				q, allQ := roomy(y, term("8", 3, 1))
				l, allL := roomy(z, at("77", "78"))
				beforeP, beforeQ, beforeL := slices.Clone(allP), slices.Clone(allQ), slices.Clone(allL)
				first := calls(p, q, l)
				if !slices.Equal(calls(p, q, l), first) {
					t.Fatalf("a second run for %s and %s differs", shown(x), shown(y))
				}
				if !slices.Equal(allP, beforeP) || !slices.Equal(allQ, beforeQ) || !slices.Equal(allL, beforeL) {
					t.Fatalf("an argument has changed: %s, %s or %s", shown(x), shown(y), places(z...))
				}
			}
		}
	}
}

// R1: no result depends on the memory of an earlier argument.
func TestArgumentsAreNotKept(t *testing.T) {
	square := polygons()[5]
	for _, x := range few() {
		p, l := slices.Clone(x), slices.Clone(square)
		before := calls(p, x, l)
		for i := range p {
			p[i] = term("77", 7, 5)
		}
		for i := range l {
			l[i] = at("77", "78")
		}
		if !slices.Equal(calls(x, x, square), before) {
			t.Fatalf("the results for %s have changed", shown(x))
		}
	}
}

// R3: nil and empty slices are the same argument.
func TestNil(t *testing.T) {
	for _, p := range few() {
		for _, l := range polygons() {
			if !slices.Equal(calls(p, nil, l), calls(p, polys.Poly{}, l)) || !slices.Equal(calls(nil, p, l), calls(polys.Poly{}, p, l)) {
				t.Fatalf("nil and empty polynomials differ beside %s", shown(p))
			}
		}
		if !slices.Equal(calls(p, p, nil), calls(p, p, [][2]fracs.Frac{})) {
			t.Fatalf("nil and empty polygons differ for %s", shown(p))
		}
	}
}
