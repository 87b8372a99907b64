package elims_test

import (
	"slices"
	"testing"

	"gusset/api"
	"gusset/elims"
	"gusset/fracs"
	"gusset/mats"
	"gusset/vecs"
)

// results returns the slices that all functions make of a and b, which has an element for each row.
func results(a mats.Mat, b vecs.Vec) [][]fracs.Frac {
	r, _, _ := elims.Reduce(a)
	kernel, _ := elims.Kernel(a)
	zero, _ := elims.Solve(a, make(vecs.Vec, a.R))
	s, _ := elims.Solve(a, b)
	y, _ := elims.Against(a, b)
	n, _ := elims.Inverse(a)
	list := [][]fracs.Frac{r.A, n.A, s.X, y, zero.X}
	for _, v := range slices.Concat(kernel, s.Kernel, zero.Kernel) {
		list = append(list, v)
	}
	return list
}

// said returns the results that are not slices of numbers.
func said(a mats.Mat, b vecs.Vec) []fracs.Frac {
	_, pivots, e0 := elims.Reduce(a)
	n, e1 := elims.Rank(a)
	x, e2 := elims.Det(a)
	y, e3 := elims.Minor(a, min(a.R, a.C))
	_, e4 := elims.Solve(a, b)
	_, e5 := elims.Against(a, b)
	list := []fracs.Frac{fracs.Int(int64(n)), x, y}
	for _, e := range []api.Errno{e0, e1, e2, e3, e4, e5} {
		list = append(list, fracs.Int(int64(e)))
	}
	for _, k := range pivots {
		list = append(list, fracs.Int(int64(k)))
	}
	return list
}

// equal reports whether two lists of slices are equal.
func equal(a, b [][]fracs.Frac) bool {
	return slices.EqualFunc(a, b, func(x, y []fracs.Frac) bool { return slices.Equal(x, y) })
}

// roomy returns l in a slice that is a part of a longer one, filled with other, and that longer one.
func roomy[T any](l []T, other T) ([]T, []T) {
	all := slices.Concat([]T{other}, l, slices.Repeat([]T{other}, 3*len(l)+4))
	return all[1 : 1+len(l)], all
}

// R1: no function changes its arguments, nor the memory beside them, and a second run is the same.
func TestArgumentsStay(t *testing.T) {
	for _, s := range sizes() {
		for _, m := range family(s[0], s[1]) {
			for _, w := range vectors(s[0]) {
				a, allA := roomy(m.A, read("77"))
				b, allB := roomy(w, read("-78"))
				beforeA, beforeB := slices.Clone(allA), slices.Clone(allB)
				other := mats.Mat{R: m.R, C: m.C, A: a}
				first, numbers := results(other, b), said(other, b)
				if !slices.Equal(allA, beforeA) || !slices.Equal(allB, beforeB) {
					t.Fatalf("an argument has changed: %s or %s", mats.Text(m), vecs.Text(w))
				}
				if !equal(results(m, w), first) || !slices.Equal(said(m, w), numbers) {
					t.Fatalf("a second run for %s and %s differs", mats.Text(m), vecs.Text(w))
				}
			}
		}
	}
}

// R4: results end at their capacity. Whoever overwrites one changes no argument, no other result, and none of a later
// call.
func TestResultsAreNew(t *testing.T) {
	for _, s := range sizes() {
		for _, p := range family(s[0], s[1]) {
			a, b := mats.Mat{R: p.R, C: p.C, A: slices.Clone(p.A)}, slices.Clone(vectors(s[0])[1])
			list, again := results(a, b), results(a, b)
			for i, r := range list {
				if cap(r) != len(r) {
					t.Fatalf("result %d for %s: capacity %d of %d", i, mats.Text(p), cap(r), len(r))
				}
				for k := range r {
					r[k] = read("77/5")
				}
				if !mats.Same(a, p) || !vecs.Same(b, vectors(s[0])[1]) {
					t.Fatalf("result %d shares memory with %s or the vector", i, mats.Text(p))
				}
				if !equal(list[i+1:], again[i+1:]) {
					t.Fatalf("result %d for %s shares memory with a later one", i, mats.Text(p))
				}
			}
			if !equal(results(a, b), again) {
				t.Fatalf("a later run for %s gives other results", mats.Text(p))
			}
		}
	}
}

// R4: the pivots, and the list of the kernel's vectors.
func TestListsAreNew(t *testing.T) {
	for _, s := range append(sizes(), [2]int{9, 9}, [2]int{6, 11}) {
		for _, m := range family(s[0], s[1]) {
			_, pivots, _ := elims.Reduce(m)
			kernel, _ := elims.Kernel(m)
			if cap(pivots) != len(pivots) || cap(kernel) != len(kernel) {
				t.Fatalf("%s: capacities %d of %d, and %d of %d", mats.Text(m), cap(pivots), len(pivots), cap(kernel), len(kernel))
			}
			before := slices.Clone(pivots)
			for i := range pivots {
				pivots[i] = -7
			}
			if _, again, _ := elims.Reduce(m); !slices.Equal(again, before) {
				t.Fatalf("%s: pivots %v, then %v", mats.Text(m), before, again)
			}
		}
	}
}
