package elims_test

import (
	"math/big"
	"slices"
	"testing"

	"gusset/api"
	"gusset/elims"
	"gusset/fracs"
	"gusset/mats"
	"gusset/vecs"
)

// swapped, multiplied and added return a with two rows swapped, one multiplied by x, and x times the row k added to the
// row i.
func swapped(a table, i, k int) table {
	rows := slices.Clone(a.rows)
	rows[i], rows[k] = rows[k], rows[i]
	return table{a.c, rows}
}

func multiplied(a table, i int, x *big.Rat) table {
	rows := slices.Clone(a.rows)
	rows[i] = combined(x, rows[i], new(big.Rat), rows[i])
	return table{a.c, rows}
}

func added(a table, i, k int, x *big.Rat) table {
	rows := slices.Clone(a.rows)
	rows[i] = combined(big.NewRat(1, 1), rows[i], x, rows[k])
	return table{a.c, rows}
}

// P14.6: operations on rows leave the reduced row echelon form as it is.
func TestRowOperations(t *testing.T) {
	for _, m := range many() {
		form, pivots, e := elims.Reduce(m)
		if e != api.OK {
			t.Fatal(e)
		}
		a := tableOf(m)
		for i := range m.R {
			k := (i + 1) % m.R
			list := []table{swapped(a, i, k), multiplied(a, i, rat("-7/3"))}
			if i != k {
				list = append(list, added(a, i, k, rat("5/2")))
			}
			for j, b := range list {
				r, l, e := elims.Reduce(matOf(b))
				if e != api.OK || !mats.Same(r, form) || !slices.Equal(l, pivots) {
					t.Fatalf("%s, operation %d on row %d: %s with %v, error %d", mats.Text(m), j, i, mats.Text(r), l, e)
				}
			}
		}
	}
}

// P14.6: the rank of the transpose, and the number of columns as a sum.
func TestRankLaws(t *testing.T) {
	count := good[int](t)
	for _, m := range many() {
		n := count(elims.Rank(m))
		if other := count(elims.Rank(matOf(turned(tableOf(m))))); other != n {
			t.Fatalf("%s: rank %d, of the transpose %d", mats.Text(m), n, other)
		}
		if basis := good[[]vecs.Vec](t)(elims.Kernel(m)); n+len(basis) != m.C {
			t.Fatalf("%s: rank %d and %d vectors in the kernel", mats.Text(m), n, len(basis))
		}
	}
}

// P14.6: the rank of a product lies between two bounds.
func TestRankOfProducts(t *testing.T) {
	count := good[int](t)
	for p := range 5 {
		for q := range 5 {
			for r := range 5 {
				for _, a := range family(p, q) {
					for _, b := range family(q, r) {
						of := count(elims.Rank(good[mats.Mat](t)(mats.Mul(a, b))))
						x, y := count(elims.Rank(a)), count(elims.Rank(b))
						if of > x || of > y || of < x+y-q {
							t.Fatalf("%s and %s: ranks %d and %d, of the product %d", mats.Text(a), mats.Text(b), x, y, of)
						}
					}
				}
			}
		}
	}
}

// P14.7: adding combinations of the kernel's basis gives solutions, and every solution is such a sum.
func TestAllSolutions(t *testing.T) {
	v := good[vecs.Vec](t)
	for _, a := range many() {
		for _, x := range vectors(a.C) {
			b := v(mats.Apply(a, x))
			s := good[elims.Solution](t)(elims.Solve(a, b))
			factors := (&series{1471}).vector(len(s.Kernel))
			sum := s.X
			if len(factors) > 0 {
				sum = v(vecs.Add(s.X, v(vecs.Mix(factors, s.Kernel))))
			}
			if !vecs.Same(v(mats.Apply(a, sum)), b) {
				t.Fatalf("%s x = %s: %s is no solution", mats.Text(a), vecs.Text(b), vecs.Text(sum))
			}
			// x is a solution: what it has at the columns without pivots says which combination leads to it
			_, pivots, _ := elims.Reduce(a)
			back, next := s.X, 0
			for k := range a.C {
				if !slices.Contains(pivots, k) {
					back = v(vecs.Axpy(x[k], s.Kernel[next], back))
					next++
				}
			}
			if !vecs.Same(back, x) {
				t.Fatalf("%s x = %s: %s is no sum of the solution and the kernel", mats.Text(a), vecs.Text(b), vecs.Text(x))
			}
		}
	}
}

// P14.8: inverse, determinant and rank agree.
func TestRegular(t *testing.T) {
	for _, m := range squares() {
		_, e := elims.Inverse(m)
		x, n := good[fracs.Frac](t)(elims.Det(m)), good[int](t)(elims.Rank(m))
		if (e == api.OK) != (x != fracs.Frac{}) || (e == api.OK) != (n == m.R) {
			t.Fatalf("%s: error %d, determinant %s, rank %d", mats.Text(m), e, fracs.Text(x), n)
		}
	}
}

// P14.8: determinants of products, transposes, and after operations on rows.
func TestDetLaws(t *testing.T) {
	of := func(a table) *big.Rat { return rat(fracs.Text(good[fracs.Frac](t)(elims.Det(matOf(a))))) }
	s := &series{1481}
	for _, n := range []int{0, 1, 2, 3, 4, 5, 8, 13} {
		for range 6 {
			a, b := tableOf(s.matrix(n, n)), tableOf(s.matrix(n, n))
			x := of(a)
			if of(product(a, b)).Cmp(times(x, of(b))) != 0 || of(turned(a)).Cmp(x) != 0 {
				t.Fatalf("%d rows: a product or a transpose", n)
			}
			if n < 2 {
				continue
			}
			i := s.below(n)
			k := (i + 1 + s.below(n-1)) % n
			if of(swapped(a, i, k)).Cmp(new(big.Rat).Neg(x)) != 0 || of(added(a, i, k, rat("-3/2"))).Cmp(x) != 0 {
				t.Fatalf("%d rows: rows %d and %d", n, i, k)
			}
		}
	}
}
