package sparses_test

import (
	"math"
	"slices"
	"testing"

	"gusset/api"
	"gusset/fracs"
	"gusset/mats"
	"gusset/sparses"
)

// badSize is a size that may not be, and why.
type badSize struct {
	n, m  int
	fault api.Errno
}

// badSizes returns sizes that may not be.
func badSizes() []badSize {
	return []badSize{
		{-1, 0, api.ErrArg}, {0, -1, api.ErrArg}, {-1, -1, api.ErrArg}, {-1, 2049, api.ErrArg}, {2049, -1, api.ErrArg}, {math.MinInt, math.MaxInt, api.ErrArg}, {math.MaxInt, math.MinInt, api.ErrArg},
		{2049, 0, api.ErrLimit}, {0, 2049, api.ErrLimit}, {2049, 1, api.ErrLimit}, {1, 2049, api.ErrLimit}, {2049, 2049, api.ErrLimit}, {1 << 32, 1 << 32, api.ErrLimit}, {math.MaxInt, math.MaxInt, api.ErrLimit},
	}
}

// builder returns a Builder.
func builder(t *testing.T, n, m int) *sparses.Builder {
	t.Helper()
	b := good[*sparses.Builder](t)(sparses.New(n, m))
	if b == nil {
		t.Fatalf("no Builder of %d by %d", n, m)
	}
	return b
}

// wantBuilt fails unless b has the entries of w.
func wantBuilt(t *testing.T, what string, b *sparses.Builder, w mats.Mat) {
	t.Helper()
	want(t, what, b.Sparse(), api.OK, w)
	for i, x := range w.A {
		if got := b.At(i/w.C, i%w.C); got != x {
			t.Fatalf("%s: %s at %d, %d, want %s", what, fracs.Text(got), i/w.C, i%w.C, fracs.Text(x))
		}
	}
}

// P16.1: a new Builder's entries are 0.
func TestNew(t *testing.T) {
	for _, s := range append(sizes(), [2]int{2048, 0}, [2]int{0, 2048}, [2]int{2048, 3}, [2]int{3, 2048}) {
		wantBuilt(t, "New", builder(t, s[0], s[1]), none(s[0], s[1]))
	}
	wantSparse(t, "New", builder(t, 2048, 2048).Sparse(), api.OK, striped(2048, 2048, "0"))
	for _, x := range badSizes() {
		if b, e := sparses.New(x.n, x.m); b != nil || e != x.fault {
			t.Errorf("New of %d by %d: error %d, want %d", x.n, x.m, e, x.fault)
		}
	}
}

// P16.1: the entries are the sums of what has been added, after each addition.
func TestAdditions(t *testing.T) {
	s := &series{1613}
	for _, size := range sizes() {
		w := none(size[0], size[1])
		b := builder(t, w.R, w.C)
		for range 12 * len(w.A) {
			at := s.below(len(w.A))
			v := numbers()[s.below(len(numbers()))]
			if s.below(3) == 0 {
				v = fracs.Neg(w.A[at]) // so the entry becomes 0
			}
			w.A[at] = fracs.Add(w.A[at], v)
			if e := b.Add(at/w.C, at%w.C, v); e != api.OK {
				t.Fatalf("Add at %d, %d: error %d", at/w.C, at%w.C, e)
			}
			wantBuilt(t, "Add", b, w)
		}
	}
}

// P16.1: the last places of the largest matrices.
func TestLastPlaces(t *testing.T) {
	b := builder(t, 2048, 2048)
	l := []sparses.Item{{Row: 0, Col: 0, V: read("1")}, {Row: 0, Col: 2047, V: read("2/3")}, {Row: 2047, Col: 0, V: read("-3")}, {Row: 2047, Col: 2047, V: read("4")}}
	for _, x := range slices.Backward(l) {
		if e := b.Add(x.Row, x.Col, x.V); e != api.OK || b.At(x.Row, x.Col) != x.V {
			t.Fatalf("%d, %d: error %d", x.Row, x.Col, e)
		}
	}
	if got := sparses.Items(b.Sparse()); !slices.Equal(got, l) {
		t.Errorf("%v", got)
	}
}

// P16.1: positions outside the matrix are ErrArg, whatever is added, and change nothing.
func TestOutside(t *testing.T) {
	for _, size := range append(sizes(), [2]int{2048, 2}, [2]int{2, 2048}) {
		w := family(size[0], size[1])[1]
		b := builder(t, w.R, w.C)
		for i, x := range w.A {
			b.Add(i/w.C, i%w.C, x)
		}
		refuse := func(i, k int) {
			for _, v := range []fracs.Frac{zero, fracs.Int(1)} {
				if e := b.Add(i, k, v); e != api.ErrArg || b.At(i, k) != zero {
					t.Fatalf("Add of %s at %d, %d of %d by %d: error %d, then %s", fracs.Text(v), i, k, w.R, w.C, e, fracs.Text(b.At(i, k)))
				}
			}
		}
		for _, i := range beyond(w.R) {
			for _, k := range append(beyond(w.C), 0, w.C-1) {
				refuse(i, k)
			}
		}
		for _, k := range beyond(w.C) {
			refuse(0, k)
			refuse(w.R-1, k)
		}
		wantBuilt(t, "after errors", b, w)
	}
}

// P16.1: no Builder, and one that New has not returned, which has neither rows nor columns.
func TestNoBuilder(t *testing.T) {
	var nothing *sparses.Builder
	for _, i := range append(beyond(0), 0, 1, 2047) {
		if e := nothing.Add(i, 0, fracs.Int(1)); e != api.ErrNil || nothing.At(i, 0) != zero {
			t.Errorf("Add at %d, 0 of no Builder: error %d", i, e)
		}
		if e := nothing.Add(0, i, zero); e != api.ErrNil || nothing.At(0, i) != zero {
			t.Errorf("Add at 0, %d of no Builder: error %d", i, e)
		}
	}
	if s := nothing.Sparse(); s.N != 0 || s.M != 0 || s.Rows != nil {
		t.Errorf("the matrix of no Builder: %s", shown(s))
	}
	var blank sparses.Builder
	if e := blank.Add(0, 0, fracs.Int(1)); e != api.ErrArg {
		t.Errorf("Add to a blank Builder: error %d", e)
	}
	wantBuilt(t, "a blank Builder", &blank, none(0, 0))
}

// P16.1: the Builder goes on after Sparse, and neither changes the other.
func TestBuilderGoesOn(t *testing.T) {
	b := builder(t, 3, 4)
	w := none(3, 4)
	var made []sparses.Sparse
	var due []mats.Mat
	s := &series{1619}
	for range 60 {
		at := s.below(12)
		v := fracs.Int(int64(s.below(5) - 2))
		w.A[at] = fracs.Add(w.A[at], v)
		b.Add(at/4, at%4, v)
		made, due = append(made, b.Sparse()), append(due, mats.Mat{R: 3, C: 4, A: slices.Clone(w.A)})
	}
	for i, m := range made {
		want(t, "an earlier matrix", m, api.OK, due[i])
	}
	for _, m := range made {
		for _, l := range m.Rows {
			for k := range l {
				l[k] = sparses.Entry{Col: 99, V: read("77/5")}
			}
		}
		clear(m.Rows)
	}
	wantBuilt(t, "after its matrices have been overwritten", b, w)
}

// P16.6: the order of the additions does not matter, and sums that are 0 are not stored.
func TestOrderOfAdditions(t *testing.T) {
	s := &series{1621}
	for _, size := range sizes() {
		for _, m := range family(size[0], size[1]) {
			var l []sparses.Item
			for i, x := range m.A {
				place := sparses.Item{Row: i / m.C, Col: i % m.C}
				for _, v := range []fracs.Frac{read("5/7"), x, read("-12/7"), zero, read("1")} {
					place.V = v
					l = append(l, place)
				}
			}
			for range 8 {
				shuffle(s, l)
				got, e := sparses.Of(m.R, m.C, l...)
				want(t, "Of in another order", got, e, m)
				b := builder(t, m.R, m.C)
				for _, x := range l {
					b.Add(x.Row, x.Col, x.V)
				}
				wantBuilt(t, "Add in another order", b, m)
			}
		}
	}
}

// P16.2: Of adds items at the same position.
func TestOf(t *testing.T) {
	for _, size := range append(sizes(), [2]int{2048, 0}, [2]int{0, 2048}, [2]int{2048, 2}) {
		got, e := sparses.Of(size[0], size[1])
		want(t, "Of nothing", got, e, none(size[0], size[1]))
		got, e = sparses.Of(size[0], size[1], []sparses.Item{}...)
		want(t, "Of an empty list", got, e, none(size[0], size[1]))
		for _, m := range family(size[0], size[1]) {
			s := thin(m)
			got, e := sparses.Of(m.R, m.C, sparses.Items(s)...)
			want(t, "Of Items", got, e, m)
			got, e = sparses.Of(m.R, m.C, slices.Concat(sparses.Items(s), sparses.Items(s), sparses.Items(s))...)
			want(t, "Of Items three times", got, e, good[mats.Mat](t)(mats.Scale(fracs.Int(3), m)))
		}
	}
}

// P16.2: Of returns the error of the size, and then that of an item outside the matrix, wherever it stands in the list.
func TestOfFaults(t *testing.T) {
	one := fracs.Int(1)
	for _, x := range badSizes() {
		for _, l := range [][]sparses.Item{nil, {{Row: 0, Col: 0, V: one}}, {{Row: -1, Col: 5000}}} {
			got, e := sparses.Of(x.n, x.m, l...)
			wantFault(t, "Of", got, e, x.fault)
		}
	}
	for _, size := range sizes() {
		within := sparses.Items(thin(family(size[0], size[1])[1]))
		for _, v := range []fracs.Frac{zero, one} {
			var l []sparses.Item
			for _, i := range beyond(size[0]) {
				l = append(l, sparses.Item{Row: i, Col: 0, V: v}, sparses.Item{Row: i, Col: size[1] - 1, V: v})
			}
			for _, k := range beyond(size[1]) {
				l = append(l, sparses.Item{Row: 0, Col: k, V: v}, sparses.Item{Row: size[0] - 1, Col: k, V: v})
			}
			for _, x := range l {
				for at := range len(within) + 1 {
					got, e := sparses.Of(size[0], size[1], slices.Insert(slices.Clone(within), at, x)...)
					wantFault(t, "Of with an item outside", got, e, api.ErrArg)
				}
			}
		}
	}
}

// P16.2: the identity.
func TestOne(t *testing.T) {
	for _, n := range []int{0, 1, 2, 3, 7, 100} {
		s, e := sparses.One(n)
		want(t, "One", s, e, good[mats.Mat](t)(mats.One(n)))
	}
	s, e := sparses.One(2048)
	wantSparse(t, "One", s, e, striped(2048, 2048, "0 1"))
	for _, x := range badSizes() {
		fault := api.ErrArg
		if x.n > 2048 {
			fault = api.ErrLimit
		}
		if x.n < 0 || x.n > 2048 {
			s, e := sparses.One(x.n)
			wantFault(t, "One", s, e, fault)
		}
	}
}
