package sparses_test

import (
	"slices"
	"strconv"
	"testing"

	"gusset/fracs"
	"gusset/mats"
	"gusset/sparses"
	"gusset/vecs"
)

// calls returns what each function that returns a matrix makes of a and b, which have the same size.
func calls(t *testing.T, a, b sparses.Sparse) []sparses.Sparse {
	t.Helper()
	m := good[sparses.Sparse](t)
	blank := m(sparses.Of(a.N, a.M))
	list := []sparses.Sparse{
		blank, m(sparses.Of(a.N, a.M, sparses.Items(a)...)), m(sparses.One(a.N)), m(sparses.OfDense(good[mats.Mat](t)(sparses.Dense(a)))), m(sparses.Turn(a)),
		m(sparses.Add(a, b)), m(sparses.Add(a, blank)), m(sparses.Add(blank, b)), m(sparses.Scale(fracs.Int(1), a)), m(sparses.Scale(zero, a)),
		m(sparses.Mul(a, m(sparses.Turn(b)))), m(sparses.Mul(m(sparses.One(a.N)), a)), m(sparses.Mul(a, m(sparses.One(a.M)))),
		m(sparses.Part(a, upTo(a.N), upTo(a.M))), m(sparses.Part(b, nil, upTo(b.M))), m(sparses.Part(b, upTo(b.N), nil)),
	}
	if a.N > 0 && a.M > 0 {
		list = append(list, m(sparses.Part(a, []int{0, a.N - 1, 0, 0}, []int{a.M - 1, 0, 0, a.M - 1})))
	}
	return list
}

// lists returns what each function that returns elements makes of a, and of v and w, which have an element for each row
// and column.
func lists(t *testing.T, a sparses.Sparse, v, w vecs.Vec) [][]fracs.Frac {
	t.Helper()
	x := good[vecs.Vec](t)
	return [][]fracs.Frac{x(sparses.Apply(a, w)), x(sparses.Apply(good[sparses.Sparse](t)(sparses.One(a.M)), w)), x(sparses.Diag(a)), good[mats.Mat](t)(sparses.Dense(a)).A}
}

// ask calls the functions that return neither.
func ask(t *testing.T, a, b sparses.Sparse, v, w vecs.Vec) []string {
	form := good[fracs.Frac](t)(sparses.Form(a, v, w))
	first, ok := sparses.At(a, 0, 0)
	said := []string{
		fracs.Text(form), fracs.Text(first), strconv.FormatBool(ok), strconv.Itoa(int(sparses.Check(a))), strconv.Itoa(sparses.Count(a)),
		strconv.FormatBool(sparses.Symmetric(a)), strconv.FormatBool(sparses.Same(a, b)), sparses.Text(a),
	}
	for _, x := range sparses.Items(a) {
		said = append(said, strconv.Itoa(x.Row), strconv.Itoa(x.Col), fracs.Text(x.V))
	}
	return said
}

// roomy returns l in a slice that is a part of a longer one, filled with other, and that longer one.
func roomy[T any](l []T, other T) ([]T, []T) {
	all := slices.Concat([]T{other}, l, slices.Repeat([]T{other}, 3*len(l)+4))
	return all[1 : 1+len(l)], all
}

// roomySparse returns s with rows and entries that have others behind them, and all that there is.
func roomySparse(s sparses.Sparse) (sparses.Sparse, sparses.Sparse) {
	other := sparses.Entry{Col: 50, V: read("-78")}
	var rows, alls [][]sparses.Entry
	for _, l := range s.Rows {
		r, all := roomy(l, other)
		rows, alls = append(rows, r), append(alls, all)
	}
	rows, all := roomy(rows, []sparses.Entry{other})
	return sparses.Sparse{N: s.N, M: s.M, Rows: rows}, sparses.Sparse{Rows: append(alls, all...)}
}

// R1: no function changes its arguments, nor the memory beside them, and a second run is the same.
func TestArgumentsStay(t *testing.T) {
	for _, size := range sizes() {
		for _, p := range family(size[0], size[1]) {
			for _, q := range family(size[0], size[1]) {
				a, allA := roomySparse(thin(p))
				b, allB := roomySparse(thin(q))
				v, allV := roomy(vectors(p.R)[1], read("79"))
				w, allW := roomy(vectors(p.C)[2], read("-80"))
				beforeA, beforeB, beforeV, beforeW := clone(allA), clone(allB), slices.Clone(allV), slices.Clone(allW)
				first, firstLists, said := calls(t, a, b), lists(t, a, v, w), ask(t, a, b, v, w)
				if !alike(allA, beforeA) || !alike(allB, beforeB) || !slices.Equal(allV, beforeV) || !slices.Equal(allW, beforeW) {
					t.Fatalf("an argument has changed: %s, %s, %s or %s", mats.Text(p), mats.Text(q), vecs.Text(v), vecs.Text(w))
				}
				a, b, v, w = thin(p), thin(q), vectors(p.R)[1], vectors(p.C)[2]
				if !slices.EqualFunc(calls(t, a, b), first, alike) || !slices.EqualFunc(lists(t, a, v, w), firstLists, slices.Equal) || !slices.Equal(ask(t, a, b, v, w), said) {
					t.Fatalf("a second run for %s and %s differs", mats.Text(p), mats.Text(q))
				}
			}
		}
	}
}

// R1: Of, OfDense and Part leave the lists that they are given as they are.
func TestListsStay(t *testing.T) {
	items, allItems := roomy([]sparses.Item{{Row: 1, Col: 1, V: read("4")}, {Row: 0, Col: 1, V: read("1")}, {Row: 1, Col: 1, V: read("-1")}, {Row: 0, Col: 0, V: read("3")}}, sparses.Item{Row: 7})
	rows, allRows := roomy([]int{1, 1, 0}, 5)
	cols, allCols := roomy([]int{1, 0}, 6)
	elements, allElements := roomy(vec("0 7 8 0"), read("9"))
	beforeItems, beforeRows, beforeCols, beforeElements := slices.Clone(allItems), slices.Clone(allRows), slices.Clone(allCols), slices.Clone(allElements)
	s, e := sparses.Of(2, 2, items...)
	part, f := sparses.Part(s, rows, cols)
	thinned, g := sparses.OfDense(mats.Mat{R: 2, C: 2, A: elements})
	if e != 0 || f != 0 || g != 0 || sparses.Text(part) != "3 2: 0 0 3; 1 0 3; 2 0 1; 2 1 3;" || sparses.Text(thinned) != "2 2: 0 1 7; 1 0 8;" {
		t.Fatalf("%s, %s, errors %d, %d and %d", sparses.Text(part), sparses.Text(thinned), e, f, g)
	}
	if !slices.Equal(allItems, beforeItems) || !slices.Equal(allRows, beforeRows) || !slices.Equal(allCols, beforeCols) || !slices.Equal(allElements, beforeElements) {
		t.Fatal("an argument has changed")
	}
}

// spoil overwrites all there is in s.
func spoil(s sparses.Sparse) {
	for _, l := range s.Rows {
		for k := range l {
			l[k] = sparses.Entry{Col: 99, V: read("77/5")}
		}
	}
	clear(s.Rows)
}

// R4: whoever overwrites a resulting matrix changes no argument, no other result, and none of a later call.
func TestMatricesAreNew(t *testing.T) {
	for _, size := range sizes() {
		for i, p := range family(size[0], size[1]) {
			list := family(size[0], size[1])
			q := list[(i+1)%len(list)]
			a, b := thin(p), thin(q)
			results, again := calls(t, a, b), calls(t, a, b)
			for i, r := range results {
				wantSparse(t, "a result", r, 0, again[i])
				spoil(r)
				if !alike(a, thin(p)) || !alike(b, thin(q)) {
					t.Fatalf("result %d shares memory with %s or %s", i, mats.Text(p), mats.Text(q))
				}
				if !slices.EqualFunc(results[i+1:], again[i+1:], alike) {
					t.Fatalf("result %d for %s and %s shares memory with a later one", i, mats.Text(p), mats.Text(q))
				}
			}
			if !slices.EqualFunc(calls(t, a, b), again, alike) {
				t.Fatalf("a later run for %s and %s gives other results", mats.Text(p), mats.Text(q))
			}
		}
	}
}

// R4: no two rows of a result share memory.
func TestRowsAreApart(t *testing.T) {
	a, b := thin(mat(3, 3, "1 2 3 4 5 6 7 8 9")), thin(mat(3, 3, "1 0 1 0 2 0 3 3 3"))
	for i, r := range calls(t, a, b) {
		for k := range r.Rows {
			before := clone(r)
			for at := range r.Rows[k] {
				r.Rows[k][at] = sparses.Entry{Col: 99, V: read("77/5")}
			}
			before.Rows[k] = r.Rows[k]
			if !alike(r, before) {
				t.Errorf("row %d of result %d shares memory with another", k, i)
			}
		}
	}
}

// R4: the same for vectors, elements and items.
func TestListsAreNew(t *testing.T) {
	for _, size := range sizes() {
		for _, p := range family(size[0], size[1]) {
			a, v, w := thin(p), vectors(p.R)[1], vectors(p.C)[2]
			results, again := lists(t, a, v, w), lists(t, a, v, w)
			for i, r := range results {
				if cap(r) != len(r) {
					t.Fatalf("result %d for %s: capacity %d of %d", i, mats.Text(p), cap(r), len(r))
				}
				for k := range r {
					r[k] = read("77/5")
				}
				if !alike(a, thin(p)) || !vecs.Same(v, vectors(p.R)[1]) || !vecs.Same(w, vectors(p.C)[2]) || !slices.EqualFunc(results[i+1:], again[i+1:], slices.Equal) {
					t.Fatalf("result %d for %s shares memory", i, mats.Text(p))
				}
			}
			items := sparses.Items(a)
			clear(items)
			if !alike(a, thin(p)) || !slices.EqualFunc(lists(t, a, v, w), again, slices.Equal) {
				t.Fatalf("a later run for %s gives other results", mats.Text(p))
			}
		}
	}
}
