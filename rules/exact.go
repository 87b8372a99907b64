package rules

import (
	"gusset/api"
	"gusset/fracs"
	"gusset/integrals"
)

// powers are the powers of a number with the exponents 0 to MaxDegree.
type powers [api.MaxDegree + 1]fracs.Frac

// raised returns the powers of a.
func raised(a fracs.Frac) powers {
	l := powers{fracs.Int(1)}
	for i := range api.MaxDegree {
		l[i+1] = fracs.Mul(l[i], a)
	}
	return l
}

// Exact returns the degree up to which a rule is exact.
func Exact(r Rule) int {
	greatest := -1
	if Check(r) != api.OK {
		return greatest
	}
	var points [][3]powers
	for _, p := range r.Points {
		points = append(points, [3]powers{raised(p[0]), raised(p[1]), raised(p[2])})
	}
degrees:
	for d := range api.MaxDegree + 1 {
		for i := range d + 1 {
			for j := range d - i + 1 {
				k := d - i - j
				sum := total(r.Weights, func(place int) fracs.Frac {
					p := &points[place]
					return fracs.Mul(fracs.Mul(p[0][i], p[1][j]), p[2][k])
				})
				if sum != integrals.Moment(i, j, k) {
					break degrees
				}
			}
		}
		greatest = d
	}
	return greatest
}

// ExactLine returns the degree up to which a line is exact.
func ExactLine(l Line) int {
	greatest := -1
	if !valid(l) {
		return greatest
	}
	var positions []powers
	for _, t := range l.At {
		positions = append(positions, raised(t))
	}
	for d := range api.MaxDegree + 1 {
		sum := total(l.Weights, func(place int) fracs.Frac { return positions[place][d] })
		if sum != ratio(1, d+1) {
			break
		}
		greatest = d
	}
	return greatest
}
