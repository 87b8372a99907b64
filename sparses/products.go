package sparses

import (
	"gusset/api"
	"gusset/fracs"
	"gusset/vecs"
)

// Apply returns the product of s and v.
func Apply(s Sparse, v vecs.Vec) (vecs.Vec, api.Errno) {
	if e := faultWith(s, v); e != api.OK {
		return nil, e
	}
	if len(v) != s.M {
		return nil, api.ErrArg
	}
	return applied(s, v), api.OK
}

// Form returns the dot product of v and s applied to w.
func Form(s Sparse, v, w vecs.Vec) (fracs.Frac, api.Errno) {
	if e := faultWith(s, v, w); e != api.OK {
		return fracs.Frac{}, e
	}
	if len(v) != s.N || len(w) != s.M {
		return fracs.Frac{}, api.ErrArg
	}
	return vecs.Dot(v, applied(s, w))
}

// Mul returns the product of a and b.
func Mul(a, b Sparse) (Sparse, api.Errno) {
	if e := fault(a, b); e != api.OK {
		return Sparse{}, e
	}
	if a.M != b.N {
		return Sparse{}, api.ErrArg
	}
	sums := blank(a.N, b.M)
	for x := range entries(a) {
		for _, y := range b.Rows[x.Col] {
			sums.Add(x.Row, y.Col, fracs.Mul(x.V, y.V))
		}
	}
	return sums.Sparse(), api.OK
}

// faultWith returns the error of a matrix and some vectors by themselves, or OK if they have none.
func faultWith(s Sparse, l ...vecs.Vec) api.Errno {
	if e := Check(s); e != api.OK {
		return e
	}
	for _, v := range l {
		if len(v) > api.MaxDim {
			return api.ErrLimit
		}
	}
	return api.OK
}

// applied returns the product of s and v, which has an element for each column of s.
func applied(s Sparse, v vecs.Vec) vecs.Vec {
	w := make(vecs.Vec, s.N)
	for x := range entries(s) {
		w[x.Row] = fracs.Add(w[x.Row], fracs.Mul(x.V, v[x.Col]))
	}
	return w
}
