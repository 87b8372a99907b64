package exprs

import (
	"gusset/api"
	"gusset/polys"
)

// all reads the whole text.
func (r *reader) all() polys.Poly {
	p := r.expression()
	if at := r.skip(); at < len(r.s) {
		fail(api.ErrForm, at)
	}
	return p
}

// expression reads an expression.
func (r *reader) expression() polys.Poly {
	_, negative := r.accept("-")
	p := r.term()
	if negative {
		p = polys.Neg(p)
	}
	for at, ok := r.accept("+-"); ok; at, ok = r.accept("+-") {
		p = combined(p, r.term(), r.s[at], at)
	}
	return p
}

// term reads a term.
func (r *reader) term() polys.Poly {
	p := r.factor()
	for at, ok := r.accept("*/"); ok; at, ok = r.accept("*/") {
		if r.s[at] == '*' {
			p = product(p, r.factor(), at)
			continue
		}
		n, place := r.number()
		p = quotient(p, n, at, place)
	}
	return p
}

// factor reads a factor.
func (r *reader) factor() polys.Poly {
	p := r.base()
	if at, ok := r.accept("^"); ok {
		n, _ := r.number()
		return power(p, n, at)
	}
	return p
}

// base reads a base.
func (r *reader) base() polys.Poly {
	at, ok := r.accept("xy(")
	if !ok {
		n, _ := r.number()
		return constant(n)
	}
	switch r.s[at] {
	case 'x':
		return polys.X()
	case 'y':
		return polys.Y()
	}
	return r.inside(at, r.expression)
}
