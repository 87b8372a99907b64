package bareiss_test

import (
	"math/big"
	"slices"
	"testing"

	"gusset/api"
	"gusset/bareiss"
	"gusset/fracs"
	"gusset/ints"
	"gusset/mats"
	"gusset/nats"
)

// The examples of the chapter.
func TestExamples(t *testing.T) {
	w := good[bareiss.Whole](t)
	m := w(bareiss.Of(3, 3, 2, 0, 1, 1, 3, 2, 1, 1, 4))
	one, two := w(bareiss.Stage(m, 1)), w(bareiss.Stage(m, 2))
	if bareiss.Text(one) != "[6 3] [2 7]" || bareiss.Text(two) != "[18]" || good[ints.Int](t)(bareiss.Det(m)) != ints.Of(18) {
		t.Errorf("stages %s and %s", bareiss.Text(one), bareiss.Text(two))
	}
	d, l, e := bareiss.Cramer(m, list("3 6 6"))
	if d != ints.Of(18) || !slices.Equal(l, list("18 18 18")) || e != api.OK {
		t.Errorf("Cramer: %s, %v, error %d", ints.Text(d), l, e)
	}
	m = w(bareiss.Of(2, 2, 1, 2, 3, 4))
	if adjugate := w(bareiss.Adjugate(m)); bareiss.Text(adjugate) != "[4 -2] [-3 1]" || good[ints.Int](t)(bareiss.Bound(m)) != ints.Of(21) {
		t.Errorf("Adjugate: %s", bareiss.Text(adjugate))
	}
	m, by, e := bareiss.Clear(mat(2, 2, "1/2 1/3 1 2"))
	if bareiss.Text(m) != "[3 2] [1 2]" || !slices.Equal(by, []nats.Nat{nats.Of(6), nats.Of(1)}) || e != api.OK {
		t.Errorf("Clear: %s, %v, error %d", bareiss.Text(m), by, e)
	}
}

// P15.1: Check says what mats.Check says.
func TestCheck(t *testing.T) {
	for _, c := range invalids() {
		e := bareiss.Check(c.whole())
		if e != c.fault || e != mats.Check(c.mat()) {
			t.Errorf("%d by %d with %d elements: error %d, want %d", c.r, c.c, c.n, e, c.fault)
		}
	}
	for _, m := range append(many(), blank(2048, 2048), blank(2048, 0), blank(0, 2048), bareiss.Whole{R: 3}, bareiss.Whole{C: 2048}) {
		if e := bareiss.Check(m); e != api.OK {
			t.Errorf("%s: error %d", bareiss.Text(m), e)
		}
	}
}

// P15.1: the elements stand row by row.
func TestOf(t *testing.T) {
	w := good[bareiss.Whole](t)
	l := []int64{1, -2, 9223372036854775807, -9223372036854775808, 0, 7}
	for r := range 7 {
		for c := range 7 {
			m, e := bareiss.Of(r, c, l...)
			if r*c != len(l) {
				if e != api.ErrArg || m.R != 0 || m.C != 0 || m.A != nil {
					t.Errorf("%d by %d: error %d", r, c, e)
				}
				continue
			}
			want := whole(r, c, "1 -2 9223372036854775807 -9223372036854775808 0 7")
			if e != api.OK || !bareiss.Same(m, want) {
				t.Errorf("%d by %d: %s, error %d", r, c, bareiss.Text(m), e)
			}
		}
	}
	if m := w(bareiss.Of(0, 3)); m.R != 0 || m.C != 3 || len(m.A) != 0 {
		t.Error(m)
	}
	if m := w(bareiss.Of(2048, 0)); m.R != 2048 || m.C != 0 || len(m.A) != 0 {
		t.Error(m)
	}
	for _, c := range invalids() {
		m, e := bareiss.Of(c.r, c.c, make([]int64, c.n)...)
		if e != c.fault || m.R != 0 || m.C != 0 || m.A != nil {
			t.Errorf("%d by %d of %d: error %d, want %d", c.r, c.c, c.n, e, c.fault)
		}
	}
}

// P15.1: the elements stay the same.
func TestFrac(t *testing.T) {
	for _, m := range append(many(), blank(2048, 2), blank(0, 2048)) {
		a := good[mats.Mat](t)(bareiss.Frac(m))
		if a.R != m.R || a.C != m.C || len(a.A) != len(m.A) {
			t.Fatalf("%s: %d by %d with %d elements", bareiss.Text(m), a.R, a.C, len(a.A))
		}
		for i, x := range a.A {
			if fracs.Text(x) != ints.Text(m.A[i]) {
				t.Fatalf("%s: element %d is %s", bareiss.Text(m), i, fracs.Text(x))
			}
		}
	}
}

// common returns the least common multiple of the denominators of l, as the first multiple of the greatest that all
// divide.
func common(l []fracs.Frac) *big.Int {
	all := big.NewInt(1)
	for _, x := range l {
		d := num(nats.Text(fracs.Den(x)))
		divisor := new(big.Int).GCD(nil, nil, all, d)
		all = times(all, divisor.Div(d, divisor))
	}
	return all
}

// P15.1: the multiples are the least common multiples, and the result has these multiples of the rows.
func TestClear(t *testing.T) {
	for _, a := range mixed() {
		m, by, e := bareiss.Clear(a)
		if e != api.OK || m.R != a.R || m.C != a.C || len(m.A) != len(a.A) || len(by) != a.R {
			t.Fatalf("%s: %s, %d multiples, error %d", mats.Text(a), bareiss.Text(m), len(by), e)
		}
		for i, n := range by {
			row := a.A[i*a.C : (i+1)*a.C]
			if nats.Text(n) != common(row).String() {
				t.Fatalf("%s: row %d is multiplied by %s", mats.Text(a), i, nats.Text(n))
			}
			for k, x := range row {
				want, ok := new(big.Rat).SetString(fracs.Text(x))
				if want.Mul(want, new(big.Rat).SetInt(common(row))); !ok || want.RatString() != ints.Text(m.A[i*a.C+k]) {
					t.Fatalf("%s: element (%d, %d) is %s", mats.Text(a), i, k, ints.Text(m.A[i*a.C+k]))
				}
			}
		}
	}
}

// P15.1: rows without elements, and as many as there may be.
func TestClearWithoutElements(t *testing.T) {
	for _, r := range []int{0, 1, 5, 2048} {
		m, by, e := bareiss.Clear(mats.Mat{R: r})
		if e != api.OK || m.R != r || m.C != 0 || len(m.A) != 0 || !slices.Equal(by, slices.Repeat([]nats.Nat{nats.Of(1)}, r)) {
			t.Errorf("%d rows: %d by %d, multiples %v, error %d", r, m.R, m.C, by, e)
		}
	}
	m, by, e := bareiss.Clear(mats.Mat{C: 2048})
	if e != api.OK || m.R != 0 || m.C != 2048 || len(m.A) != 0 || len(by) != 0 {
		t.Errorf("no rows: %d by %d, multiples %v, error %d", m.R, m.C, by, e)
	}
}

// P15.4: products of the rows' sums of absolute values.
func TestBound(t *testing.T) {
	for _, m := range many() {
		want := big.NewInt(1)
		for _, row := range tableOf(m).rows {
			sum := new(big.Int)
			for _, x := range row {
				sum.Add(sum, new(big.Int).Abs(x))
			}
			want = times(want, sum)
		}
		if x := good[ints.Int](t)(bareiss.Bound(m)); x != integer(want) {
			t.Fatalf("%s: %s, want %v", bareiss.Text(m), ints.Text(x), want)
		}
	}
	for _, c := range []int{0, 1, 2048} {
		none, some := good[ints.Int](t)(bareiss.Bound(blank(0, c))), good[ints.Int](t)(bareiss.Bound(blank(3, c)))
		if none != ints.Of(1) || some != ints.Of(0) {
			t.Errorf("%d columns: %s without rows, and %s with zeros", c, ints.Text(none), ints.Text(some))
		}
	}
}

// P15.4: Same compares sizes and elements, of invalid matrices too.
func TestSame(t *testing.T) {
	l := []bareiss.Whole{
		{}, {R: 1}, {C: 1}, {R: 2049}, {R: -1, C: -1, A: list("1")}, {R: 1, C: 1}, blank(1, 1), whole(1, 2, "1 2"), whole(2, 1, "1 2"), whole(1, 2, "1 3"),
		whole(1, 2, "2 1"), whole(2, 2, "1 2"), whole(2, 2, "1 2 3"), whole(2, 2, "1 2 3 4"), whole(2, 2, "1 3 2 4"), whole(2, 2, "1 2 3 -4"),
		whole(4, 1, "1 2 3 4"), whole(1, 1, "18446744073709551616"),
	}
	for i, a := range l {
		for k, b := range l {
			other := bareiss.Whole{R: b.R, C: b.C, A: slices.Clone(b.A)}
			if bareiss.Same(a, other) != (i == k) {
				t.Errorf("%d and %d: %v", i, k, i != k)
			}
		}
	}
	if !bareiss.Same(bareiss.Whole{R: 3}, bareiss.Whole{R: 3, A: []ints.Int{}}) {
		t.Error("no elements, nil or empty, are not the same")
	}
}

// P15.4: the text is that of the Mat with the same elements.
func TestText(t *testing.T) {
	for _, m := range many() {
		a := mats.Mat{R: m.R, C: m.C}
		for _, x := range m.A {
			a.A = append(a.A, fraction(ints.Text(x)))
		}
		if s := bareiss.Text(m); s != mats.Text(a) {
			t.Fatalf("%q, want %q", s, mats.Text(a))
		}
	}
	for _, c := range invalids() {
		if s := bareiss.Text(c.whole()); s != mats.Text(c.mat()) {
			t.Errorf("%d by %d with %d elements: %q", c.r, c.c, c.n, s)
		}
	}
	if s := bareiss.Text(whole(2, 3, "1 -2 0 18446744073709551616 5 6")); s != "[1 -2 0] [18446744073709551616 5 6]" {
		t.Errorf("%q", s)
	}
}
