package bareiss_test

import (
	"slices"
	"testing"

	"gusset/bareiss"
	"gusset/fracs"
	"gusset/ints"
	"gusset/mats"
	"gusset/nats"
)

// results returns the slices of integers that all functions make of m and b.
func results(m bareiss.Whole, b []ints.Int) [][]ints.Int {
	_, l, _ := bareiss.Cramer(m, b)
	adjugate, _ := bareiss.Adjugate(m)
	made := [][]ints.Int{l, adjugate.A}
	for s := range min(m.R, m.C) + 1 {
		x, _ := bareiss.Stage(m, s)
		made = append(made, x.A)
	}
	return made
}

// said returns the results that are no such slices.
func said(m bareiss.Whole, b []ints.Int) []string {
	d, e0 := bareiss.Det(m)
	other, _, e1 := bareiss.Cramer(m, b)
	bound, e2 := bareiss.Bound(m)
	a, e3 := bareiss.Frac(m)
	code := ints.Of(int64(e0 + 100*e1 + 10000*e2 + 1000000*e3))
	return []string{ints.Text(d), ints.Text(other), ints.Text(bound), mats.Text(a), bareiss.Text(m), ints.Text(code)}
}

// equal reports whether two lists of slices are equal.
func equal(a, b [][]ints.Int) bool {
	return slices.EqualFunc(a, b, func(x, y []ints.Int) bool { return slices.Equal(x, y) })
}

// roomy returns l in a slice that is a part of a longer one, filled with other, and that longer one.
func roomy[T any](l []T, other T) ([]T, []T) {
	all := slices.Concat([]T{other}, l, slices.Repeat([]T{other}, 3*len(l)+4))
	return all[1 : 1+len(l)], all
}

// R1: no function changes its arguments, nor the memory beside them, and a second run is the same.
func TestArgumentsStay(t *testing.T) {
	for _, s := range sizes() {
		for _, m := range family(s[0], s[1]) {
			for _, w := range columns(s[0]) {
				a, allA := roomy(m.A, ints.Of(77))
				b, allB := roomy(w, ints.Of(-78))
				beforeA, beforeB := slices.Clone(allA), slices.Clone(allB)
				other := bareiss.Whole{R: m.R, C: m.C, A: a}
				first, texts := results(other, b), said(other, b)
				if !slices.Equal(allA, beforeA) || !slices.Equal(allB, beforeB) {
					t.Fatalf("an argument has changed: %s or %v", bareiss.Text(m), w)
				}
				if !equal(results(m, w), first) || !slices.Equal(said(m, w), texts) {
					t.Fatalf("a second run for %s and %v differs", bareiss.Text(m), w)
				}
			}
		}
	}
}

// R1 and R4: Of and Clear.
func TestMadeMatricesAreNew(t *testing.T) {
	l, allL := roomy([]int64{1, 2, 3, 4, 5, 6}, 77)
	before := slices.Clone(allL)
	m := good[bareiss.Whole](t)(bareiss.Of(2, 3, l...))
	l[0] = 99
	if cap(m.A) != len(m.A) || !bareiss.Same(m, whole(2, 3, "1 2 3 4 5 6")) || !slices.Equal(allL[2:], before[2:]) {
		t.Errorf("Of: %s", bareiss.Text(m))
	}
	for _, p := range mixed() {
		a, allA := roomy(p.A, fraction("7/5"))
		before := slices.Clone(allA)
		m, by, _ := bareiss.Clear(mats.Mat{R: p.R, C: p.C, A: a})
		if cap(m.A) != len(m.A) || cap(by) != len(by) || !slices.Equal(allA, before) {
			t.Fatalf("Clear of %s: capacities %d of %d, %d of %d", mats.Text(p), cap(m.A), len(m.A), cap(by), len(by))
		}
		text, texts := bareiss.Text(m), slices.Clone(by)
		for i := range by {
			by[i] = nats.Of(7)
		}
		for i := range m.A {
			m.A[i] = ints.Of(-7)
		}
		if again, list, _ := bareiss.Clear(p); bareiss.Text(again) != text || !slices.Equal(list, texts) {
			t.Fatalf("a later Clear of %s: %s", mats.Text(p), bareiss.Text(again))
		}
	}
}

// R4: Frac.
func TestFractionsAreNew(t *testing.T) {
	for _, s := range sizes() {
		for _, m := range family(s[0], s[1]) {
			a := good[mats.Mat](t)(bareiss.Frac(m))
			text := mats.Text(a)
			if cap(a.A) != len(a.A) {
				t.Fatalf("%s: capacity %d of %d", text, cap(a.A), len(a.A))
			}
			for i := range a.A {
				a.A[i] = fracs.Int(77)
			}
			if again := mats.Text(good[mats.Mat](t)(bareiss.Frac(m))); again != text {
				t.Fatalf("%s, then %s", text, again)
			}
		}
	}
}

// R4: results end at their capacity. Whoever overwrites one changes no argument, no other result, and none of a later
// call.
func TestResultsAreNew(t *testing.T) {
	for _, s := range sizes() {
		for _, p := range family(s[0], s[1]) {
			m, b := bareiss.Whole{R: p.R, C: p.C, A: slices.Clone(p.A)}, slices.Clone(columns(s[0])[1])
			l, again := results(m, b), results(m, b)
			for i, r := range l {
				if cap(r) != len(r) {
					t.Fatalf("result %d for %s: capacity %d of %d", i, bareiss.Text(p), cap(r), len(r))
				}
				for k := range r {
					r[k] = ints.Of(77)
				}
				if !bareiss.Same(m, p) || !slices.Equal(b, columns(s[0])[1]) {
					t.Fatalf("result %d shares memory with %s or the list", i, bareiss.Text(p))
				}
				if !equal(l[i+1:], again[i+1:]) {
					t.Fatalf("result %d for %s shares memory with a later one", i, bareiss.Text(p))
				}
			}
			if !equal(results(m, b), again) {
				t.Fatalf("a later run for %s gives other results", bareiss.Text(p))
			}
		}
	}
}
