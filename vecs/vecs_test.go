package vecs_test

import (
	"math"
	"math/big"
	"slices"
	"strconv"
	"testing"

	"gusset/api"
	"gusset/fracs"
	"gusset/vecs"
)

// The chapter's table of examples.
func TestExamples(t *testing.T) {
	first := vecs.Of(1, -2)
	second, e := vecs.Axpy(read("1/2"), first, vecs.Of(0, 3))
	if vecs.Text(first) != "[1 -2]" || vecs.Text(second) != "[1/2 2]" || e != api.OK {
		t.Errorf("%s, %s, error %d", vecs.Text(first), vecs.Text(second), e)
	}
	d, e := vecs.Dot(vecs.Of(1, 2, 3), vecs.Of(4, 5, 6))
	wantNumber(t, "Dot", d, e, rat("32"))
	wantNumber(t, "Max", vecs.Max(vecs.Of(2, -7)), api.OK, rat("7"))
	wantNumber(t, "Max of the empty vector", vecs.Max(vecs.Vec{}), api.OK, rat("0"))
	v, e := vecs.Add(vecs.Of(1), vecs.Of(1, 2))
	wantFault(t, "Add", v, e, api.ErrArg)
	v, e = vecs.Unit(2, 2)
	wantFault(t, "Unit(2, 2)", v, e, api.ErrArg)
	v, e = vecs.Zero(-1)
	wantFault(t, "Zero(-1)", v, e, api.ErrArg)
	v, e = vecs.Zero(2049)
	wantFault(t, "Zero(2049)", v, e, api.ErrLimit)
	v, e = vecs.Mix(vec("2 3"), []vecs.Vec{vecs.Of(1, 0), vecs.Of(0, 1)})
	if vecs.Text(v) != "[2 3]" || e != api.OK {
		t.Errorf("Mix: %s, error %d", vecs.Text(v), e)
	}
	v, e = vecs.Part(vecs.Of(5, 6, 7), []int{2, 0, 2})
	if vecs.Text(v) != "[7 5 7]" || e != api.OK {
		t.Errorf("Part: %s, error %d", vecs.Text(v), e)
	}
}

// P12.1: Of takes integers of any size, and any number of them.
func TestOf(t *testing.T) {
	for _, l := range [][]int64{nil, {}, {0}, {1}, {-1, 1}, {3, 3, 3}, {math.MaxInt64, math.MinInt64, 0, 7}} {
		want(t, "Of", vecs.Of(l...), api.OK, mixed(len(l), whole(l), units(len(l))...))
	}
	for _, n := range []int{2047, 2048, 2049, 5000} {
		l := make([]int64, n)
		for i := range l {
			l[i] = int64(i%19 - 9)
		}
		want(t, "Of "+strconv.Itoa(n)+" numbers", vecs.Of(l...), api.OK, whole(l))
	}
}

// whole returns the integers of l as fractions.
func whole(l []int64) []*big.Rat {
	out := []*big.Rat{}
	for _, n := range l {
		out = append(out, new(big.Rat).SetInt64(n))
	}
	return out
}

// units returns the unit vectors of n elements.
func units(n int) []vecs.Vec {
	l := make([]vecs.Vec, n)
	for i := range l {
		l[i] = make(vecs.Vec, n)
		l[i][i] = fracs.Int(1)
	}
	return l
}

// P12.1: Zero for all lengths, and for others.
func TestZero(t *testing.T) {
	for n := range 2049 {
		v, e := vecs.Zero(n)
		if e != api.OK || len(v) != n || cap(v) != n || !isZero(v) {
			t.Fatalf("Zero(%d): error %d, length %d, capacity %d", n, e, len(v), cap(v))
		}
	}
	for _, n := range []int{-1, -2, -2048, -2049, math.MinInt32, math.MinInt64 + 1, math.MinInt64} {
		v, e := vecs.Zero(n)
		wantFault(t, "Zero("+strconv.Itoa(n)+")", v, e, api.ErrArg)
	}
	for _, n := range []int{2049, 2050, 4096, math.MaxInt32, math.MaxInt64 - 1, math.MaxInt64} {
		v, e := vecs.Zero(n)
		wantFault(t, "Zero("+strconv.Itoa(n)+")", v, e, api.ErrLimit)
	}
}

// P12.1: Unit for all indices of short vectors, for the first and the last index of long ones, and for others.
func TestUnit(t *testing.T) {
	for n := range 12 {
		for i, u := range units(n) {
			v, e := vecs.Unit(n, i)
			want(t, "Unit("+strconv.Itoa(n)+", "+strconv.Itoa(i)+")", v, e, rats(u))
		}
	}
	for _, at := range [][2]int{{2047, 0}, {2047, 2046}, {2048, 0}, {2048, 1023}, {2048, 2047}} {
		u := make(vecs.Vec, at[0])
		u[at[1]] = fracs.Int(1)
		v, e := vecs.Unit(at[0], at[1])
		want(t, "Unit", v, e, rats(u))
	}
	for _, x := range []struct {
		n, i  int
		fault api.Errno
	}{
		{0, 0, api.ErrArg}, {0, -1, api.ErrArg}, {1, 1, api.ErrArg}, {3, 3, api.ErrArg}, {3, -1, api.ErrArg}, {3, math.MaxInt64, api.ErrArg}, {3, math.MinInt64, api.ErrArg},
		{2048, 2048, api.ErrArg}, {2048, -1, api.ErrArg}, {-1, 0, api.ErrArg}, {-1, -1, api.ErrArg}, {-5, -7, api.ErrArg}, {math.MinInt64, 0, api.ErrArg},
		{2049, 0, api.ErrLimit}, {2049, 2048, api.ErrLimit}, {2049, 2049, api.ErrLimit}, {2049, -1, api.ErrLimit}, {math.MaxInt64, math.MinInt64, api.ErrLimit},
	} {
		v, e := vecs.Unit(x.n, x.i)
		wantFault(t, "Unit("+strconv.Itoa(x.n)+", "+strconv.Itoa(x.i)+")", v, e, x.fault)
	}
}

// P12.3: Part takes elements in any order, more than once or not at all.
func TestPart(t *testing.T) {
	a := vec("5 -1/2 7 0 18446744073709551617/3")
	for _, places := range [][]int{nil, {}, {0}, {4}, {0, 1, 2, 3, 4}, {4, 3, 2, 1, 0}, {2, 2, 2}, {1, 4, 1, 0, 3, 3, 2, 4, 0}} {
		var r []*big.Rat
		for _, i := range places {
			r = append(r, rats(a)[i])
		}
		v, e := vecs.Part(a, places)
		want(t, "Part", v, e, r)
	}
	v, e := vecs.Part(nil, nil)
	want(t, "Part of nothing", v, e, nil)
	most := make([]int, 2048)
	for i := range most {
		most[i] = i * 5 % 2048
	}
	v, e = vecs.Part(long(2048), most)
	var r []*big.Rat
	for _, i := range most {
		r = append(r, rats(long(2048)[i:i+1])...)
	}
	want(t, "Part of a long vector", v, e, r)
	v, e = vecs.Part(a[:1], make([]int, 2048))
	want(t, "Part of many places", v, e, slices.Repeat(rats(a[:1]), 2048))
}

// P12.3: Part with indices out of range, too many elements and too many places.
func TestPartFaults(t *testing.T) {
	a := vecs.Of(1, 2)
	for _, places := range [][]int{{2}, {-1}, {0, 2}, {0, 1, -1}, {math.MaxInt64}, {math.MinInt64}, {0, 1, 0, 1, 5, 0}} {
		v, e := vecs.Part(a, places)
		wantFault(t, "Part", v, e, api.ErrArg)
	}
	v, e := vecs.Part(nil, []int{0})
	wantFault(t, "Part of the empty vector", v, e, api.ErrArg)
	v, e = vecs.Part(long(2048), []int{2047, 2048})
	wantFault(t, "Part at 2048", v, e, api.ErrArg)
	for _, places := range [][]int{nil, {0}, {-1}, {2049}, make([]int, 2049)} {
		v, e = vecs.Part(long(2049), places)
		wantFault(t, "Part of 2049 elements", v, e, api.ErrLimit)
	}
	for _, x := range []vecs.Vec{nil, a, long(2048), long(2049)} {
		v, e = vecs.Part(x, slices.Repeat([]int{-1}, 2049))
		wantFault(t, "Part at 2049 invalid places", v, e, api.ErrLimit)
		v, e = vecs.Part(x, make([]int, 2049))
		wantFault(t, "Part at 2049 places", v, e, api.ErrLimit)
	}
}

// P12.4: the maximum norm, wherever the greatest element is, and of vectors of any length.
func TestMax(t *testing.T) {
	for _, x := range [][2]string{
		{"", "0"}, {"0", "0"}, {"0 0 0", "0"}, {"5", "5"}, {"-5", "5"}, {"1 2 3", "3"}, {"3 2 1", "3"}, {"1 -3 2", "3"}, {"-1 -2 -3", "3"},
		{"-7/2 10/3", "7/2"}, {"7/2 -10/3", "7/2"}, {"1/3 1/2", "1/2"}, {"-1/18446744073709551617 0", "1/18446744073709551617"}, {"3 -3", "3"}, {"-3 3 -3", "3"},
	} {
		wantNumber(t, "Max of "+x[0], vecs.Max(vec(x[0])), api.OK, rat(x[1]))
	}
	for _, n := range lengths() {
		for _, v := range family(n) {
			wantNumber(t, "Max of "+shown(rats(v)), vecs.Max(v), api.OK, greatest(rats(v)))
		}
	}
	for _, n := range []int{2048, 2049, 5000} {
		v := long(n)
		v[n-1] = read("-81")
		wantNumber(t, "Max of a long vector", vecs.Max(v), api.OK, rat("81"))
	}
}

// P12.4: vectors are equal if their lengths and their elements are.
func TestSame(t *testing.T) {
	list := []vecs.Vec{vec(""), vec("0"), vec("0 0"), vec("1"), vec("1 2"), vec("2 1"), vec("1 2 0"), vec("0 1 2"), vec("1/2 1"), vec("-1/2 1"), vec("1/2 -1"), long(2048), long(2049)}
	for i, a := range list {
		for k, b := range list {
			if vecs.Same(a, slices.Clone(b)) != (i == k) {
				t.Errorf("Same of %s and %s is %t", shown(rats(a)), shown(rats(b)), i != k)
			}
		}
	}
	if !vecs.Same(nil, vecs.Vec{}) || !vecs.Same(vecs.Vec{}, nil) || !vecs.Same(nil, nil) || vecs.Same(nil, vecs.Of(0)) {
		t.Error("Same of nil")
	}
	half, _ := fracs.Of(-2, -4)
	if !vecs.Same(vecs.Vec{half}, vec("1/2")) {
		t.Error("Same of -2/-4 and 1/2")
	}
	for _, n := range []int{1, 2, 5, 2048, 3000} {
		a := long(n)
		for _, i := range []int{0, n / 2, n - 1} {
			b := slices.Clone(a)
			if b[i] = fracs.Add(b[i], read("1/9")); vecs.Same(a, b) || vecs.Same(b, a) {
				t.Errorf("Same does not see the element %d of %d", i, n)
			}
		}
	}
}

// P12.4: the elements in square brackets.
func TestText(t *testing.T) {
	for _, x := range [][2]string{
		{"", "[]"}, {"0", "[0]"}, {"-1/2", "[-1/2]"}, {"1 2", "[1 2]"}, {"6/4 0 -3", "[3/2 0 -3]"},
		{"18446744073709551616 -1/18446744073709551617 7", "[18446744073709551616 -1/18446744073709551617 7]"},
	} {
		if got := vecs.Text(vec(x[0])); got != x[1] {
			t.Errorf("Text: %q, want %q", got, x[1])
		}
	}
	if vecs.Text(vecs.Vec{}) != "[]" {
		t.Error("Text of a vector without elements")
	}
	text := "[0"
	for range 2999 {
		text += " 0"
	}
	if vecs.Text(make(vecs.Vec, 3000)) != text+"]" {
		t.Error("Text of 3000 zeros")
	}
}
