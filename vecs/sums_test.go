package vecs_test

import (
	"math/big"
	"testing"

	"gusset/api"
	"gusset/fracs"
	"gusset/vecs"
)

// pair is a function of two vectors that returns one.
type pair struct {
	what string
	of   func(a, b vecs.Vec) (vecs.Vec, api.Errno)
}

// pairs returns what makes one vector of two of the same length.
func pairs() []pair {
	return []pair{
		{"Add", vecs.Add}, {"Sub", vecs.Sub},
		{"Axpy", func(a, b vecs.Vec) (vecs.Vec, api.Errno) { return vecs.Axpy(read("-2/3"), a, b) }},
		{"Axpy 0", func(a, b vecs.Vec) (vecs.Vec, api.Errno) { return vecs.Axpy(fracs.Frac{}, a, b) }},
		{"Sum", func(a, b vecs.Vec) (vecs.Vec, api.Errno) { return vecs.Sum(a, b) }},
		{"Mix", func(a, b vecs.Vec) (vecs.Vec, api.Errno) { return vecs.Mix(vec("2 0"), []vecs.Vec{a, b}) }},
		{"Dot", func(a, b vecs.Vec) (vecs.Vec, api.Errno) {
			d, e := vecs.Dot(a, b)
			if d == (fracs.Frac{}) {
				return nil, e
			}
			return vecs.Vec{d}, e
		}},
	}
}

// P12.2: sums, differences, multiples and dot products, element by element.
func TestSums(t *testing.T) {
	one, less := rat("1"), rat("-1")
	for _, n := range lengths() {
		for _, a := range family(n) {
			for _, b := range family(n) {
				of := " of " + shown(rats(a)) + " and " + shown(rats(b))
				v, e := vecs.Add(a, b)
				want(t, "Add"+of, v, e, mixed(n, []*big.Rat{one, one}, a, b))
				v, e = vecs.Sub(a, b)
				want(t, "Sub"+of, v, e, mixed(n, []*big.Rat{one, less}, a, b))
				d, e := vecs.Dot(a, b)
				wantNumber(t, "Dot"+of, d, e, product(a, b))
				for _, c := range numbers() {
					v, e = vecs.Axpy(c, a, b)
					want(t, "Axpy"+of, v, e, mixed(n, append(rats([]fracs.Frac{c}), one), a, b))
				}
			}
			for _, c := range numbers() {
				v, e := vecs.Scale(c, a)
				want(t, "Scale of "+shown(rats(a)), v, e, mixed(n, rats([]fracs.Frac{c}), a))
			}
		}
	}
}

// P12.2: vectors of the greatest length.
func TestLongSums(t *testing.T) {
	a, b, one, less := long(2048), long(2048), rat("1"), rat("-1")
	b[2047], b[0] = read("9"), read("1/9")
	v, e := vecs.Add(a, b)
	want(t, "Add", v, e, mixed(2048, []*big.Rat{one, one}, a, b))
	v, e = vecs.Sub(a, b)
	want(t, "Sub", v, e, mixed(2048, []*big.Rat{one, less}, a, b))
	v, e = vecs.Scale(read("3/2"), b)
	want(t, "Scale", v, e, mixed(2048, []*big.Rat{rat("3/2")}, b))
	v, e = vecs.Axpy(read("3/2"), b, a)
	want(t, "Axpy", v, e, mixed(2048, []*big.Rat{rat("3/2"), one}, b, a))
	d, e := vecs.Dot(a, b)
	wantNumber(t, "Dot", d, e, product(a, b))
	v, e = vecs.Sum(a, b, a)
	want(t, "Sum", v, e, mixed(2048, []*big.Rat{one, one, one}, a, b, a))
	v, e = vecs.Mix(vec("5 -1"), []vecs.Vec{a, b})
	want(t, "Mix", v, e, mixed(2048, []*big.Rat{rat("5"), less}, a, b))
}

// P12.2 and P12.3: two vectors that are too long, or of different lengths.
func TestFaultsOfTwo(t *testing.T) {
	for _, f := range pairs() {
		for _, x := range []struct {
			a, b  int
			fault api.Errno
		}{
			{0, 1, api.ErrArg}, {1, 0, api.ErrArg}, {1, 2, api.ErrArg}, {3, 2, api.ErrArg}, {2048, 2047, api.ErrArg}, {0, 2048, api.ErrArg},
			{2049, 2049, api.ErrLimit}, {2049, 2048, api.ErrLimit}, {2048, 2049, api.ErrLimit}, {2049, 0, api.ErrLimit}, {0, 2049, api.ErrLimit},
			{2049, 2050, api.ErrLimit}, {4096, 1, api.ErrLimit},
		} {
			v, e := f.of(long(x.a), long(x.b))
			wantFault(t, f.what, v, e, x.fault)
		}
	}
	for _, c := range numbers() {
		v, e := vecs.Scale(c, long(2049))
		wantFault(t, "Scale", v, e, api.ErrLimit)
	}
}

// R3: nil and empty vectors are the same argument, and have no elements to sum.
func TestEmptySums(t *testing.T) {
	for _, f := range pairs() {
		for _, x := range [][2]vecs.Vec{{nil, nil}, {nil, {}}, {{}, nil}, {{}, {}}} {
			v, e := f.of(x[0], x[1])
			want(t, f.what, v, e, nil)
		}
		for _, x := range [][2]vecs.Vec{{nil, vecs.Of(1)}, {vecs.Of(1), nil}, {{}, vecs.Of(1)}, {vecs.Of(1), {}}} {
			v, e := f.of(x[0], x[1])
			wantFault(t, f.what, v, e, api.ErrArg)
		}
	}
	for _, x := range []vecs.Vec{nil, {}} {
		v, e := vecs.Scale(read("2"), x)
		want(t, "Scale", v, e, nil)
	}
}

// P12.3: sums and combinations of any number of vectors.
func TestSumAndMix(t *testing.T) {
	for _, n := range lengths() {
		list := family(n)
		for size := 1; size <= len(list); size++ {
			c := make([]fracs.Frac, size)
			ones := make([]*big.Rat, size)
			for i := range c {
				c[i], ones[i] = numbers()[(i+size)%len(numbers())], rat("1")
			}
			v, e := vecs.Sum(list[:size]...)
			want(t, "Sum", v, e, mixed(n, ones, list[:size]...))
			v, e = vecs.Mix(c, list[:size])
			want(t, "Mix", v, e, mixed(n, rats(c), list[:size]...))
		}
	}
}

// P12.3: Sum and Mix of no vectors are empty; and more vectors may be combined than a vector has elements.
func TestNoneAndMany(t *testing.T) {
	v, e := vecs.Sum()
	want(t, "Sum of none", v, e, nil)
	v, e = vecs.Sum([]vecs.Vec{}...)
	want(t, "Sum of none", v, e, nil)
	for _, c := range [][]fracs.Frac{nil, {}} {
		for _, l := range [][]vecs.Vec{nil, {}} {
			v, e = vecs.Mix(c, l)
			want(t, "Mix of none", v, e, nil)
		}
	}
	many, ones := make([]vecs.Vec, 3000), make([]fracs.Frac, 3000)
	for i := range many {
		many[i], ones[i] = vecs.Of(1, int64(-i)), fracs.Int(1)
	}
	total := []*big.Rat{rat("3000"), rat("-4498500")}
	v, e = vecs.Sum(many...)
	want(t, "Sum of many", v, e, total)
	v, e = vecs.Mix(ones, many)
	want(t, "Mix of many", v, e, total)
}

// P12.3: the errors of Sum and Mix, and which comes first.
func TestFaultsOfMany(t *testing.T) {
	for _, x := range []struct {
		numbers int
		lengths []int
		sum     api.Errno
		mix     api.Errno
	}{
		{1, nil, api.OK, api.ErrArg}, {3, nil, api.OK, api.ErrArg}, {0, []int{2}, api.OK, api.ErrArg}, {2, []int{2}, api.OK, api.ErrArg}, {2, []int{3, 3, 3}, api.OK, api.ErrArg},
		{4, []int{3, 3, 3}, api.OK, api.ErrArg}, {2, []int{0}, api.OK, api.ErrArg}, {3, []int{2, 2, 3}, api.ErrArg, api.ErrArg}, {3, []int{2, 3, 2}, api.ErrArg, api.ErrArg},
		{3, []int{3, 2, 2}, api.ErrArg, api.ErrArg}, {3, []int{0, 0, 1}, api.ErrArg, api.ErrArg}, {1, []int{2, 3}, api.ErrArg, api.ErrArg}, {1, []int{2048}, api.OK, api.OK},
		{1, []int{2049}, api.ErrLimit, api.ErrLimit}, {0, []int{2049}, api.ErrLimit, api.ErrLimit}, {2, []int{2049}, api.ErrLimit, api.ErrLimit},
		{2, []int{2, 2049}, api.ErrLimit, api.ErrLimit}, {3, []int{1, 2, 2049}, api.ErrLimit, api.ErrLimit}, {3, []int{2049, 2, 1}, api.ErrLimit, api.ErrLimit},
		{1, []int{1, 2, 2049}, api.ErrLimit, api.ErrLimit}, {3, []int{2049, 2049, 2049}, api.ErrLimit, api.ErrLimit}, {4, []int{2, 2, 2, 2050}, api.ErrLimit, api.ErrLimit},
	} {
		var l []vecs.Vec
		for _, n := range x.lengths {
			l = append(l, long(n))
		}
		v, e := vecs.Sum(l...)
		if e != x.sum || e != api.OK && len(v) != 0 {
			t.Errorf("Sum of %d vectors: error %d, want %d", len(l), e, x.sum)
		}
		v, e = vecs.Mix(make([]fracs.Frac, x.numbers), l)
		if e != x.mix || e != api.OK && len(v) != 0 {
			t.Errorf("Mix of %d numbers and %d vectors: error %d, want %d", x.numbers, len(l), e, x.mix)
		}
	}
	v, e := vecs.Mix(make([]fracs.Frac, 2049), []vecs.Vec{vecs.Of(1)})
	wantFault(t, "Mix of 2049 numbers and a vector", v, e, api.ErrArg)
}
