package sparses_test

import (
	"slices"
	"strconv"
	"strings"
	"testing"

	"gusset/api"
	"gusset/fracs"
	"gusset/mats"
	"gusset/sparses"
	"gusset/vecs"
)

// The chapter's table of examples.
func TestExamples(t *testing.T) {
	b, e := sparses.New(2, 3)
	for _, x := range []sparses.Item{{Row: 0, Col: 2, V: read("1/2")}, {Row: 0, Col: 0, V: read("1")}, {Row: 1, Col: 1, V: read("5")}, {Row: 1, Col: 1, V: read("-5")}} {
		if f := b.Add(x.Row, x.Col, x.V); e != api.OK || f != api.OK {
			t.Fatalf("errors %d and %d", e, f)
		}
	}
	s := b.Sparse()
	if text := sparses.Text(s); text != "2 3: 0 0 1; 0 2 1/2;" {
		t.Errorf("%q", text)
	}
	v, e := sparses.Apply(s, vecs.Of(2, 0, 4))
	wantVec(t, "Apply", v, e, vecs.Of(4, 0))
	turn, e := sparses.Turn(s)
	if text := sparses.Text(turn); text != "3 2: 0 0 1; 2 0 1/2;" || e != api.OK {
		t.Errorf("%q, error %d", text, e)
	}
	_, f := sparses.New(-1, 2049)
	_, g := sparses.New(2049, 0)
	if e := b.Add(2, 0, fracs.Int(1)); e != api.ErrArg || f != api.ErrArg || g != api.ErrLimit {
		t.Errorf("errors %d, %d and %d", e, f, g)
	}
}

// P16.2: Check accepts all sizes up to the greatest, and rows in order without zeros.
func TestCheck(t *testing.T) {
	list := []sparses.Sparse{
		{}, {Rows: [][]sparses.Entry{}}, {M: 2048}, {N: 2048, Rows: make([][]sparses.Entry, 2048)}, {N: 1, M: 2048, Rows: [][]sparses.Entry{row("1 -1/2 7", 0, 1000, 2047)}},
		{N: 2, M: 1, Rows: [][]sparses.Entry{{}, row("1", 0)}}, striped(2048, 2048, "1 2 3"), striped(2047, 2048, "1 0 3"),
	}
	for _, s := range sizes() {
		for _, m := range family(s[0], s[1]) {
			list = append(list, thin(m))
		}
	}
	for _, s := range list {
		if e := sparses.Check(s); e != api.OK {
			t.Errorf("Check of %s: error %d", shown(s), e)
		}
	}
	for _, x := range invalids() {
		if e := sparses.Check(x.s); e != x.fault {
			t.Errorf("Check of %s: error %d, want %d", shown(x.s), e, x.fault)
		}
	}
}

// P16.2: Check of every row of up to three entries in three columns, of which one may be out of range.
func TestCheckRows(t *testing.T) {
	check := func(cols ...int) {
		s := sparses.Sparse{N: 2, M: 3, Rows: [][]sparses.Entry{nil, row("1 2 3"[:max(2*len(cols)-1, 0)], cols...)}}
		ordered := slices.IsSorted(cols) && len(slices.Compact(slices.Clone(cols))) == len(cols)
		within := !slices.Contains(cols, -1) && !slices.Contains(cols, 3)
		if e := sparses.Check(s); (e == api.OK) != (ordered && within) || e != api.OK && e != api.ErrArg {
			t.Errorf("Check of columns %v: error %d", cols, e)
		}
	}
	check()
	for i := -1; i <= 3; i++ {
		check(i)
		for k := -1; k <= 3; k++ {
			check(i, k)
			for l := -1; l <= 3; l++ {
				check(i, k, l)
			}
		}
	}
}

// P16.2: Items lists the entries row by row, and none of invalid matrices.
func TestItems(t *testing.T) {
	for _, size := range sizes() {
		for _, m := range family(size[0], size[1]) {
			var due []sparses.Item
			for i, x := range m.A {
				if x != zero {
					due = append(due, sparses.Item{Row: i / m.C, Col: i % m.C, V: x})
				}
			}
			s := thin(m)
			got := sparses.Items(s)
			if !slices.Equal(got, due) || cap(got) != len(got) || sparses.Count(s) != len(due) {
				t.Errorf("%s: items %v, capacity %d, count %d", shown(s), got, cap(got), sparses.Count(s))
			}
		}
	}
	for _, x := range invalids() {
		if l, n := sparses.Items(x.s), sparses.Count(x.s); len(l) != 0 || n != 0 {
			t.Errorf("%s: items %v, count %d", shown(x.s), l, n)
		}
	}
}

// P16.5: Count of matrices as large as may be.
func TestCount(t *testing.T) {
	for _, x := range []struct {
		s sparses.Sparse
		n int
	}{{striped(2048, 2048, "1 2 3"), 3*2048 - 2}, {striped(2048, 2048, "0 0 0 1"), 2046}, {sparses.Sparse{M: 2048}, 0}, {striped(2048, 1, "1 1 1"), 2}, {striped(1, 2048, "1 1 1"), 2}} {
		if n := sparses.Count(x.s); n != x.n {
			t.Errorf("Count of %s: %d, want %d", shown(x.s), n, x.n)
		}
	}
}

// P16.5: a matrix is symmetric if it is valid and equal to its transpose.
func TestSymmetric(t *testing.T) {
	for _, size := range sizes() {
		for _, m := range family(size[0], size[1]) {
			if got := sparses.Symmetric(thin(m)); got != mats.Symmetric(m) {
				t.Errorf("Symmetric of %s: %t", mats.Text(m), got)
			}
		}
	}
	for _, s := range []sparses.Sparse{{}, thin(mat(2, 2, "1 5 5 1")), thin(mat(2, 2, "0 5 5 0")), thin(mat(3, 3, "1 2 3 2 4 5/7 3 5/7 6")), thin(none(300, 300)), striped(2048, 2048, "7/3 0 7/3"), striped(2048, 2048, "0 9")} {
		if !sparses.Symmetric(s) {
			t.Errorf("%s is symmetric", shown(s))
		}
	}
	for _, s := range []sparses.Sparse{{M: 1}, {M: 2048}, thin(none(1, 0)), thin(none(2, 3)), thin(mat(2, 2, "1 5 -5 1")), thin(mat(1, 4, "1 1 1 1")), striped(2048, 2048, "7/3 0 7/2"), striped(2047, 2048, "1 1 1")} {
		if sparses.Symmetric(s) {
			t.Errorf("%s is not symmetric", shown(s))
		}
	}
	for _, x := range invalids() {
		if sparses.Symmetric(x.s) {
			t.Errorf("%s is not valid", shown(x.s))
		}
	}
}

// P16.5: Symmetric looks at each pair of entries.
func TestSymmetricPairs(t *testing.T) {
	const n = 6
	for i := range n {
		for k := range n {
			m := none(n, n)
			m.A[i*n+k] = read("1/3")
			if sparses.Symmetric(thin(m)) != (i == k) {
				t.Errorf("Symmetric with one entry at %d, %d is %t", i, k, i != k)
			}
			m.A[k*n+i] = read("1/4")
			if sparses.Symmetric(thin(m)) != (i == k) {
				t.Errorf("Symmetric with different entries at %d, %d and %d, %d is %t", i, k, k, i, i != k)
			}
			m.A[k*n+i], m.A[i*n+k] = read("1/3"), read("1/3")
			if !sparses.Symmetric(thin(m)) {
				t.Errorf("Symmetric with equal entries at %d, %d and %d, %d is false", i, k, k, i)
			}
		}
	}
}

// P16.5: matrices are equal if N, M and the rows are, also invalid ones.
func TestSame(t *testing.T) {
	of := func(n, m int, rows ...[]sparses.Entry) sparses.Sparse { return sparses.Sparse{N: n, M: m, Rows: rows} }
	list := []sparses.Sparse{
		of(0, 0), of(0, 1), of(1, 0), of(1, 0, nil), of(1, 1, nil), of(2, 1, nil, nil), of(1, 2, nil), of(0, 2048), of(-1, 0), of(-1, -1), of(2049, 0), of(0, 2049), of(2, 2),
		of(1, 2, row("1", 0)), of(1, 2, row("1", 1)), of(1, 2, row("2", 0)), of(1, 2, row("-1", 0)), of(1, 2, row("1/2", 0)), of(1, 2, row("1 1", 0, 1)), of(1, 2, row("1 2", 0, 1)), of(1, 2, row("2 1", 0, 1)),
		of(2, 2, row("1", 0), nil), of(2, 2, nil, row("1", 0)), of(2, 2, row("1", 0), row("1", 0)), of(2, 2, row("1", 0), row("2", 0)), of(2, 2, row("1", 0)), of(2, 2, row("1", 0), nil, nil),
		of(1, 2, row("1 1", 1, 0)), of(1, 2, row("1 1", 1, 1)), of(1, 2, row("0", 0)), of(1, 2, row("0", 1)), of(1, 2, row("1", 2)), of(1, 2, row("1", -1)), of(1, 3, row("1", 0)),
	}
	for i, a := range list {
		for k, b := range list {
			if sparses.Same(a, clone(b)) != (i == k) {
				t.Errorf("Same of %s and %s is %t", shown(a), shown(b), i != k)
			}
		}
	}
	if !sparses.Same(of(1, 2, nil), of(1, 2, []sparses.Entry{})) || !sparses.Same(of(-1, 2), sparses.Sparse{N: -1, M: 2, Rows: [][]sparses.Entry{}}) {
		t.Error("Same of nil and empty rows")
	}
	half, _ := fracs.Of(-2, -4)
	if !sparses.Same(of(1, 1, []sparses.Entry{{V: half}}), of(1, 1, row("1/2", 0))) {
		t.Error("Same of -2/-4 and 1/2")
	}
}

// P16.5: the text of the sizes and the entries, and none for invalid matrices.
func TestText(t *testing.T) {
	for _, x := range []struct {
		s    sparses.Sparse
		text string
	}{
		{sparses.Sparse{}, "0 0:"}, {sparses.Sparse{M: 2048}, "0 2048:"}, {thin(none(2048, 0)), "2048 0:"}, {thin(none(2, 3)), "2 3:"}, {thin(mat(1, 1, "1")), "1 1: 0 0 1;"},
		{thin(mat(2, 2, "0 -1 3/2 0")), "2 2: 0 1 -1; 1 0 3/2;"}, {thin(mat(3, 2, "0 0 0 0 5 -7/3")), "3 2: 2 0 5; 2 1 -7/3;"},
		{thin(mat(2, 1, "18446744073709551616 -1/18446744073709551617")), "2 1: 0 0 18446744073709551616; 1 0 -1/18446744073709551617;"},
		{sparses.Sparse{N: 1, M: 2048, Rows: [][]sparses.Entry{row("1 -2", 10, 2047)}}, "1 2048: 0 10 1; 0 2047 -2;"},
	} {
		if got := sparses.Text(x.s); got != x.text {
			t.Errorf("Text: %q, want %q", got, x.text)
		}
	}
	due := "2048 2048:"
	for i := range 2048 {
		due += strings.ReplaceAll(" # # 1/3;", "#", strconv.Itoa(i))
	}
	if sparses.Text(striped(2048, 2048, "0 1/3")) != due {
		t.Error("Text of 2048 rows")
	}
	for _, x := range invalids() {
		if got := sparses.Text(x.s); got != "" {
			t.Errorf("Text of %s: %q", shown(x.s), got)
		}
	}
}
