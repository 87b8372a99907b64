package vecs_test

import (
	"slices"
	"strconv"
	"testing"

	"gusset/fracs"
	"gusset/vecs"
)

// calls returns what each function that returns a vector makes of a and b, which have the same length.
func calls(t *testing.T, a, b vecs.Vec) []vecs.Vec {
	t.Helper()
	v, n := good(t), len(a)
	var all []int
	for i := range n {
		all = append(all, i)
	}
	list := []vecs.Vec{
		vecs.Of(1, 2, 3), v(vecs.Zero(n)), v(vecs.Add(a, b)), v(vecs.Add(a, v(vecs.Zero(n)))), v(vecs.Add(v(vecs.Zero(n)), b)), v(vecs.Sub(a, b)), v(vecs.Sub(a, v(vecs.Zero(n)))),
		v(vecs.Scale(fracs.Int(1), a)), v(vecs.Scale(fracs.Int(0), a)), v(vecs.Axpy(fracs.Int(0), a, b)), v(vecs.Axpy(fracs.Int(1), a, b)), v(vecs.Sum(a)), v(vecs.Sum(a, b, a)),
		v(vecs.Mix(vecs.Of(1), []vecs.Vec{b})), v(vecs.Mix(vecs.Of(0, 1), []vecs.Vec{a, b})), v(vecs.Part(a, all)), v(vecs.Part(b, nil)),
	}
	if n > 0 {
		list = append(list, v(vecs.Unit(n, n-1)), v(vecs.Part(a, []int{0, n - 1, 0})))
	}
	return list
}

// ask calls the functions that return no vector.
func ask(t *testing.T, a, b vecs.Vec) []string {
	d, e := vecs.Dot(a, b)
	if e != 0 {
		t.Fatalf("Dot: error %d", e)
	}
	return []string{fracs.Text(d), fracs.Text(vecs.Max(a)), vecs.Text(b), strconv.FormatBool(vecs.Same(a, b))}
}

// roomy returns l in a slice that is a part of a longer one, filled with other, and that longer one.
func roomy[T any](l []T, other T) ([]T, []T) {
	all := slices.Concat([]T{other}, l, slices.Repeat([]T{other}, 3*len(l)+4))
	return all[1 : 1+len(l)], all
}

// R1: no function changes its arguments, nor the memory beside them, and a second run is the same.
func TestArgumentsStay(t *testing.T) {
	for _, n := range lengths() {
		for _, p := range family(n) {
			for _, q := range family(n) {
				a, allA := roomy(p, read("77"))
				b, allB := roomy(q, read("-78"))
				beforeA, beforeB := slices.Clone(allA), slices.Clone(allB)
				first, said := calls(t, a, b), ask(t, a, b)
				if !slices.Equal(allA, beforeA) || !slices.Equal(allB, beforeB) {
					t.Fatalf("an argument has changed: %s or %s", vecs.Text(p), vecs.Text(q))
				}
				if !slices.EqualFunc(calls(t, p, q), first, vecs.Same) || !slices.Equal(ask(t, p, q), said) {
					t.Fatalf("a second run for %s and %s differs", vecs.Text(p), vecs.Text(q))
				}
			}
		}
	}
}

// R1: Sum, Mix, Part and Of leave the lists that they are given as they are.
func TestListsStay(t *testing.T) {
	for _, n := range lengths() {
		l, allL := roomy(family(n), vecs.Of(7))
		c, allC := roomy(slices.Repeat(numbers()[1:2], len(l)), read("79"))
		places, allPlaces := roomy(make([]int, 2*n), 5)
		whole, allWhole := roomy([]int64{3, 1, 2}, 9)
		beforeL, beforeC, beforePlaces, beforeWhole := slices.Clone(allL), slices.Clone(allC), slices.Clone(allPlaces), slices.Clone(allWhole)
		_, e := vecs.Sum(l...)
		_, f := vecs.Mix(c, l)
		_, g := vecs.Part(l[0], places)
		vecs.Of(whole...)
		if e != 0 || f != 0 || g != 0 {
			t.Fatalf("errors %d, %d and %d", e, f, g)
		}
		if !slices.EqualFunc(allL, beforeL, vecs.Same) || !slices.Equal(allC, beforeC) || !slices.Equal(allPlaces, beforePlaces) || !slices.Equal(allWhole, beforeWhole) {
			t.Fatalf("an argument with %d elements has changed", n)
		}
	}
}

// R4: results end at their capacity. Whoever overwrites one changes no argument, no other result, and none of a later
// call.
func TestResultsAreNew(t *testing.T) {
	for _, n := range lengths() {
		for _, p := range family(n) {
			for _, q := range family(n) {
				a, b := slices.Clone(p), slices.Clone(q)
				results, again := calls(t, a, b), calls(t, a, b)
				for i, r := range results {
					if cap(r) != len(r) {
						t.Fatalf("result %d for %s and %s: capacity %d of %d", i, vecs.Text(p), vecs.Text(q), cap(r), len(r))
					}
					for k := range r {
						r[k] = read("77/5")
					}
					if !vecs.Same(a, p) || !vecs.Same(b, q) {
						t.Fatalf("result %d shares memory with %s or %s", i, vecs.Text(p), vecs.Text(q))
					}
					if !slices.EqualFunc(results[i+1:], again[i+1:], vecs.Same) {
						t.Fatalf("result %d for %s and %s shares memory with a later one", i, vecs.Text(p), vecs.Text(q))
					}
				}
				if !slices.EqualFunc(calls(t, a, b), again, vecs.Same) {
					t.Fatalf("a later run for %s and %s gives other results", vecs.Text(p), vecs.Text(q))
				}
			}
		}
	}
}
