package mats_test

import (
	"slices"
	"strconv"
	"testing"

	"gusset/fracs"
	"gusset/mats"
	"gusset/vecs"
)

// calls returns what each function that returns a matrix or a vector makes of a and b, which have the same size, and of
// v and w, which have an element for each row and column. A vector stands as a matrix that shares its memory.
func calls(t *testing.T, a, b mats.Mat, v, w vecs.Vec) []mats.Mat {
	t.Helper()
	m := good[mats.Mat](t)
	zero := m(mats.Make(a.R, a.C, nil))
	list := []mats.Mat{
		m(mats.Of(2, 1, 1, 2)), zero, m(mats.Make(a.R, a.C, func(i, k int) fracs.Frac { return a.A[i*a.C+k] })), m(mats.One(a.R)), m(mats.Diag(v)), m(mats.Outer(v, w)), m(mats.Turn(a)),
		m(mats.Add(a, b)), m(mats.Add(a, zero)), m(mats.Add(zero, b)), m(mats.Sub(a, b)), m(mats.Sub(a, zero)), m(mats.Scale(fracs.Int(1), a)), m(mats.Scale(fracs.Int(0), a)),
		m(mats.Mul(a, m(mats.Turn(b)))), m(mats.Mul(m(mats.One(a.R)), a)), m(mats.Mul(a, m(mats.One(a.C)))), m(column(mats.Apply(a, w))), m(column(mats.Apply(m(mats.One(a.C)), w))),
		m(mats.Part(a, upTo(a.R), upTo(a.C))), m(mats.Part(b, nil, upTo(b.C))), m(mats.Part(b, upTo(b.R), nil)),
	}
	for i := range a.R {
		list = append(list, m(column(mats.Row(a, i))), m(column(mats.Row(b, i))))
	}
	for k := range a.C {
		list = append(list, m(column(mats.Col(a, k))), m(column(mats.Col(b, k))))
	}
	return list
}

// ask calls the functions that return no matrix and no vector.
func ask(t *testing.T, a, b mats.Mat, v, w vecs.Vec) []string {
	x := good[fracs.Frac](t)(mats.Form(a, v, w))
	first, ok := mats.At(a, 0, 0)
	return []string{
		fracs.Text(x), fracs.Text(first), strconv.FormatBool(ok), strconv.Itoa(int(mats.Check(a))), fracs.Text(mats.Sum(a)),
		strconv.FormatBool(mats.Symmetric(a)), strconv.FormatBool(mats.Same(a, b)), mats.Text(b),
	}
}

// roomy returns l in a slice that is a part of a longer one, filled with other, and that longer one.
func roomy[T any](l []T, other T) ([]T, []T) {
	all := slices.Concat([]T{other}, l, slices.Repeat([]T{other}, 3*len(l)+4))
	return all[1 : 1+len(l)], all
}

// R1: no function changes its arguments, nor the memory beside them, and a second run is the same.
func TestArgumentsStay(t *testing.T) {
	for _, s := range sizes() {
		for _, p := range family(s[0], s[1]) {
			for _, q := range family(s[0], s[1]) {
				v, w := vectors(p.R)[1], vectors(p.C)[2]
				a, allA := roomy(p.A, read("77"))
				b, allB := roomy(q.A, read("-78"))
				x, allX := roomy(v, read("79"))
				y, allY := roomy(w, read("-80"))
				before := [][]fracs.Frac{slices.Clone(allA), slices.Clone(allB), slices.Clone(allX), slices.Clone(allY)}
				m, n := mats.Mat{R: p.R, C: p.C, A: a}, mats.Mat{R: q.R, C: q.C, A: b}
				first, said := calls(t, m, n, x, y), ask(t, m, n, x, y)
				for i, now := range [][]fracs.Frac{allA, allB, allX, allY} {
					if !slices.Equal(now, before[i]) {
						t.Fatalf("the argument %d has changed: %s, %s, %s or %s", i, mats.Text(p), mats.Text(q), vecs.Text(v), vecs.Text(w))
					}
				}
				if !slices.EqualFunc(calls(t, p, q, v, w), first, mats.Same) || !slices.Equal(ask(t, p, q, v, w), said) {
					t.Fatalf("a second run for %s and %s differs", mats.Text(p), mats.Text(q))
				}
			}
		}
	}
}

// R1: Of and Part leave the lists that they are given as they are.
func TestListsStay(t *testing.T) {
	whole, allWhole := roomy([]int64{3, 1, 2, 4}, 9)
	rows, allRows := roomy([]int{1, 1, 0}, 5)
	cols, allCols := roomy([]int{0, 1}, 6)
	beforeWhole, beforeRows, beforeCols := slices.Clone(allWhole), slices.Clone(allRows), slices.Clone(allCols)
	m, e := mats.Of(2, 2, whole...)
	part, f := mats.Part(m, rows, cols)
	if e != 0 || f != 0 || mats.Text(part) != "[2 4] [2 4] [3 1]" {
		t.Fatalf("%s, errors %d and %d", mats.Text(part), e, f)
	}
	if !slices.Equal(allWhole, beforeWhole) || !slices.Equal(allRows, beforeRows) || !slices.Equal(allCols, beforeCols) {
		t.Fatal("an argument has changed")
	}
}

// R4: results end at their capacity. Whoever overwrites one changes no argument, no other result, and none of a later
// call.
func TestResultsAreNew(t *testing.T) {
	for _, s := range sizes() {
		p, q, v, w := family(s[0], s[1])[1], family(s[0], s[1])[2], vectors(s[0])[1], vectors(s[1])[2]
		a, b := mats.Mat{R: p.R, C: p.C, A: slices.Clone(p.A)}, mats.Mat{R: q.R, C: q.C, A: slices.Clone(q.A)}
		x, y := slices.Clone(v), slices.Clone(w)
		results, again := calls(t, a, b, x, y), calls(t, a, b, x, y)
		for i, r := range results {
			if cap(r.A) != len(r.A) {
				t.Fatalf("result %d for %s and %s: capacity %d of %d", i, mats.Text(p), mats.Text(q), cap(r.A), len(r.A))
			}
			for k := range r.A {
				r.A[k] = read("77/5")
			}
			if !mats.Same(a, p) || !mats.Same(b, q) || !vecs.Same(x, v) || !vecs.Same(y, w) {
				t.Fatalf("result %d shares memory with %s, %s, %s or %s", i, mats.Text(p), mats.Text(q), vecs.Text(v), vecs.Text(w))
			}
			if !slices.EqualFunc(results[i+1:], again[i+1:], mats.Same) {
				t.Fatalf("result %d for %s and %s shares memory with a later one", i, mats.Text(p), mats.Text(q))
			}
		}
		if !slices.EqualFunc(calls(t, a, b, x, y), again, mats.Same) {
			t.Fatalf("a later run for %s and %s gives other results", mats.Text(p), mats.Text(q))
		}
	}
}
