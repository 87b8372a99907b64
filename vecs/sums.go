package vecs

import (
	"gusset/api"
	"gusset/fracs"
)

// Add returns a + b.
func Add(a, b Vec) (Vec, api.Errno) {
	return combine(func(i int) fracs.Frac { return fracs.Add(a[i], b[i]) }, a, b)
}

// Sub returns a - b.
func Sub(a, b Vec) (Vec, api.Errno) {
	return combine(func(i int) fracs.Frac { return fracs.Sub(a[i], b[i]) }, a, b)
}

// Scale returns c a.
func Scale(c fracs.Frac, a Vec) (Vec, api.Errno) {
	return combine(func(i int) fracs.Frac { return fracs.Mul(c, a[i]) }, a)
}

// Axpy returns c a + b.
func Axpy(c fracs.Frac, a, b Vec) (Vec, api.Errno) {
	return combine(func(i int) fracs.Frac { return fracs.Add(fracs.Mul(c, a[i]), b[i]) }, a, b)
}

// Dot returns the dot product.
func Dot(a, b Vec) (fracs.Frac, api.Errno) {
	if e := fault(a, b); e != api.OK {
		return fracs.Frac{}, e
	}
	return dot(a, b), api.OK
}

// Sum returns the sum of several vectors.
func Sum(l ...Vec) (Vec, api.Errno) {
	return combine(func(i int) fracs.Frac { return fracs.Sum(across(l, i)...) }, l...)
}

// Mix returns a linear combination.
func Mix(c []fracs.Frac, l []Vec) (Vec, api.Errno) {
	if e := fault(l...); e != api.OK {
		return nil, e
	}
	if len(c) != len(l) {
		return nil, api.ErrArg
	}
	return combine(func(i int) fracs.Frac { return dot(c, across(l, i)) }, l...)
}

// combine returns the vector that has at(i) at each index i of the vectors of l, or the error of l.
func combine(at func(i int) fracs.Frac, l ...Vec) (Vec, api.Errno) {
	if e := fault(l...); e != api.OK {
		return nil, e
	}
	if len(l) == 0 {
		return nil, api.OK
	}
	return each(len(l[0]), at), api.OK
}

// fault returns the error of vectors that must have the same length, or OK if they do.
func fault(l ...Vec) api.Errno {
	for _, a := range l {
		if len(a) > api.MaxDim {
			return api.ErrLimit
		}
	}
	for _, a := range l {
		if len(a) != len(l[0]) {
			return api.ErrArg
		}
	}
	return api.OK
}

// dot returns the dot product of a and b, which have the same length.
func dot(a, b Vec) fracs.Frac {
	return fracs.Sum(each(len(a), func(i int) fracs.Frac { return fracs.Mul(a[i], b[i]) })...)
}

// across returns the elements of the vectors of l at the index i.
func across(l []Vec, i int) Vec {
	return each(len(l), func(k int) fracs.Frac { return l[k][i] })
}
