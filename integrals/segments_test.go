package integrals_test

import (
	"math/big"
	"testing"

	"gusset/fracs"
	"gusset/integrals"
	"gusset/polys"
)

// P9.3: Seg between all points, among them equal ones.
func TestSeg(t *testing.T) {
	for _, p := range append(simple(), steep()...) {
		for _, a := range spots() {
			for _, b := range spots() {
				want(t, "Seg of "+shown(p)+" from "+places(a, b), integrals.Seg(p, a, b), along(monomials(p), a, b))
			}
		}
	}
}

// P9.3: Seg is not multiplied by the length, and at a single point it is the value.
func TestSegAtPoint(t *testing.T) {
	for _, a := range spots() {
		for _, b := range spots() {
			equal(t, "Seg of 1 from "+places(a, b), integrals.Seg(power(0, 0), a, b), fracs.Int(1))
		}
		for _, p := range append(simple(), steep()...) {
			equal(t, "Seg of "+shown(p)+" at "+places(a), integrals.Seg(p, a, a), polys.At(p, a[0], a[1]))
		}
	}
}

// flow returns the flux to the right by its definition.
func flow(gx, gy polys.Poly, a, b [2]fracs.Frac) *big.Rat {
	across := new(big.Rat).Mul(between(a[1], b[1])[1], along(monomials(gx), a, b))
	return across.Sub(across, new(big.Rat).Mul(between(a[0], b[0])[1], along(monomials(gy), a, b)))
}

// P9.3: Flow of fields between all points.
func TestFlow(t *testing.T) {
	fields := append(simple(), power(12, 0), dense(5), dense(12))
	for i, gx := range fields {
		for k, gy := range fields {
			for n := i % 3; n < len(spots()); n += 3 {
				a, b := spots()[n], spots()[(i+k+n)%len(spots())]
				want(t, "Flow of "+shown(gx)+" and "+shown(gy)+" from "+places(a, b), integrals.Flow(gx, gy, a, b), flow(gx, gy, a, b))
			}
		}
	}
}

// P9.3: a flux to the right is positive, for each of the four directions.
func TestFlowToTheRight(t *testing.T) {
	one, o := polys.Const(fracs.Int(1)), at("0", "0")
	for _, x := range []struct {
		gx, gy polys.Poly
		b      [2]fracs.Frac
		want   string
	}{
		{one, nil, at("0", "3"), "3"}, {one, nil, at("0", "-3"), "-3"}, {one, nil, at("3", "0"), "0"}, {nil, one, at("3", "0"), "-3"}, {nil, one, at("-3", "0"), "3"},
		{nil, one, at("0", "3"), "0"}, {one, one, at("1", "1"), "0"}, {one, polys.Neg(one), at("1", "1"), "2"}, {one, one, at("-1", "1"), "2"}, {one, one, o, "0"},
	} {
		want(t, "Flow of "+shown(x.gx)+" and "+shown(x.gy)+" to "+places(x.b), integrals.Flow(x.gx, x.gy, o, x.b), rat(x.want))
	}
}
