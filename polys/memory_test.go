package polys_test

import (
	"slices"
	"testing"

	"gusset/fracs"
	"gusset/polys"
)

// calls returns what each function that returns a polynomial makes of a and b.
func calls(a, b polys.Poly) []polys.Poly {
	half, two := read("1/2"), fracs.Int(2)
	zero, one := fracs.Int(0), fracs.Int(1)
	of, _ := polys.Of(a...)
	mul, _ := polys.Mul(a, b)
	first, _ := polys.Pow(a, 1)
	second, _ := polys.Pow(b, 2)
	return []polys.Poly{
		of, polys.Const(half), polys.X(), polys.Y(), mul, first, second,
		polys.Add(a, b), polys.Add(a, nil), polys.Add(nil, a), polys.Add(a, a), polys.Sub(a, b), polys.Sub(a, nil), polys.Sub(nil, a),
		polys.Neg(a), polys.Scale(a, one), polys.Scale(a, half), polys.Dx(a), polys.Dy(a), polys.Laplace(a),
		polys.Shift(a, half, two, zero, one, one, half), polys.Shift(a, one, zero, zero, zero, one, zero),
	}
}

// ask calls the functions that return no polynomial.
func ask(a, b polys.Poly) {
	polys.Ok(a)
	polys.Coef(a, 1, 1)
	polys.Degree(a)
	polys.At(a, fracs.Int(2), fracs.Int(3))
	polys.Same(a, b)
	polys.Text(a)
}

// roomy returns p in a slice that is a part of a longer one, and that longer one.
func roomy(p polys.Poly) (polys.Poly, polys.Poly) {
	all := slices.Concat(polys.Poly{term("8", 3, 1)}, p, slices.Repeat(polys.Poly{term("9", 1, 3)}, 3*len(p)+4))
	return all[1 : 1+len(p)], all
}

// few returns arguments of all kinds, few enough to be paired.
func few() []polys.Poly {
	list := []polys.Poly{dense(0), dense(3), dense(6), dense(12)}
	for i, p := range arguments() {
		if i%4 == 0 && modelOf(p).degree() < 9 {
			list = append(list, p)
		}
	}
	return list
}

// P8.5 and R1: no function changes its arguments, nor the memory beside them.
func TestArgumentsStay(t *testing.T) {
	for _, p := range few() {
		for _, q := range few() {
			a, allA := roomy(p)
			b, allB := roomy(q)
			beforeA, beforeB := slices.Clone(allA), slices.Clone(allB)
			calls(a, b)
			ask(a, b)
			if !slices.Equal(allA, beforeA) || !slices.Equal(allB, beforeB) {
				t.Fatalf("an argument has changed: %s or %s", shown(p), shown(q))
			}
		}
	}
}

// P8.5 and R4: results are normalized and end at their capacity. Whoever overwrites one changes no argument, no other
// result, and none of a later call.
func TestResultsAreNew(t *testing.T) {
	for _, p := range few() {
		for _, q := range few() {
			a, b := slices.Clone(p), slices.Clone(q)
			results, again := calls(a, b), calls(a, b)
			for i, r := range results {
				if !polys.Ok(r) || cap(r) != len(r) {
					t.Fatalf("result %d for %s and %s: %s, capacity %d", i, shown(p), shown(q), shown(r), cap(r))
				}
				for k := range r {
					r[k] = term("77", 7, 7)
				}
				if !slices.Equal(a, p) || !slices.Equal(b, q) {
					t.Fatalf("result %d shares memory with %s or %s", i, shown(p), shown(q))
				}
				for k, other := range results[i+1:] {
					if !slices.Equal(other, again[i+1+k]) {
						t.Fatalf("results %d and %d for %s and %s share memory", i, i+1+k, shown(p), shown(q))
					}
				}
			}
			if !slices.EqualFunc(calls(a, b), again, slices.Equal) {
				t.Fatalf("a second run for %s and %s gives other results", shown(p), shown(q))
			}
		}
	}
}

// P8.5 and R4: the memory of a changed argument is no longer that of an earlier result.
func TestResultsStay(t *testing.T) {
	for _, p := range few() {
		a, b := slices.Clone(p), slices.Clone(p)
		results, again := calls(a, b), calls(p, p)
		for k := range a {
			a[k], b[k] = term("77", 7, 7), term("78", 7, 7)
		}
		if !slices.EqualFunc(results, again, slices.Equal) {
			t.Fatalf("a result for %s has changed with the argument", shown(p))
		}
	}
}

// R3: nil and empty slices are the same argument, and all functions return for them.
func TestNil(t *testing.T) {
	for _, p := range few() {
		for _, x := range [][2]polys.Poly{{nil, p}, {p, nil}} {
			y := [2]polys.Poly{slices.Concat(polys.Poly{}, x[0]), slices.Concat(polys.Poly{}, x[1])}
			for i := range y {
				if y[i] == nil {
					y[i] = polys.Poly{}
				}
			}
			if !slices.EqualFunc(calls(x[0], x[1]), calls(y[0], y[1]), slices.Equal) {
				t.Fatalf("nil and empty slices differ beside %s", shown(p))
			}
		}
	}
	if polys.Degree(polys.Poly{}) != -1 || polys.Text(polys.Poly{}) != "0" || !polys.Same(nil, polys.Poly{}) || !polys.Ok(polys.Poly{}) {
		t.Error("the empty polynomial is not 0")
	}
	if polys.At(nil, fracs.Int(2), fracs.Int(3)) != (fracs.Frac{}) || polys.Coef(nil, 0, 0) != (fracs.Frac{}) {
		t.Error("the value of 0 is not 0")
	}
}
