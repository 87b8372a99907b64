package elims

import (
	"gusset/fracs"
	"gusset/mats"
	"gusset/vecs"
)

// grid is a matrix in the course of its elimination. Its rows may be longer than the matrix is wide: what stands behind
// its columns is changed with them, but has no pivots.
type grid struct {
	rows   []vecs.Vec
	pivots []int      // the columns of the pivots, one in each of the first rows
	factor fracs.Frac // what the steps have divided the determinant by
}

// gridOf returns a copy of a, which is valid, with some zeros behind each row.
func gridOf(a mats.Mat, zeros int) *grid {
	g := &grid{factor: fracs.Int(1)}
	for i := range a.R {
		row := make(vecs.Vec, a.C+zeros)
		copy(row, a.A[i*a.C:(i+1)*a.C])
		g.rows = append(g.rows, row)
	}
	return g
}

// descend finds the pivots of the first c columns from left to right, makes them 1, and clears the columns below them.
func (g *grid) descend(c int) {
columns:
	for k := range c {
		top := len(g.pivots)
		for i := top; ; i++ {
			if i == len(g.rows) {
				continue columns
			}
			if g.rows[i][k] != (fracs.Frac{}) {
				g.raise(i, top)
				break
			}
		}
		g.factor = fracs.Mul(g.factor, g.rows[top][k])
		divide(g.rows[top], k)
		for _, row := range g.rows[top+1:] {
			clearAt(row, k, g.rows[top])
		}
		g.pivots = append(g.pivots, k)
	}
}

// ascend clears the columns above the pivots. It starts at the last one, so that the rows that are subtracted have no
// other pivots' columns left to clear.
func (g *grid) ascend() {
	for i := len(g.pivots) - 1; i > 0; i-- {
		for _, row := range g.rows[:i] {
			clearAt(row, g.pivots[i], g.rows[i])
		}
	}
}

// raise swaps the rows i and top.
func (g *grid) raise(i, top int) {
	if i == top {
		return
	}
	g.rows[i], g.rows[top] = g.rows[top], g.rows[i]
	g.factor = fracs.Neg(g.factor)
}

// divide divides a row by its element k, its first that is not 0.
func divide(row vecs.Vec, k int) {
	pivot := row[k]
	if pivot == fracs.Int(1) {
		return
	}
	change(row, k, func(_ int, x fracs.Frac) fracs.Frac {
		if x == (fracs.Frac{}) {
			return x // most elements of a sparse system: this is much faster than to divide them
		}
		quotient, _ := fracs.Div(x, pivot)
		return quotient
	})
}

// clearAt makes the element k of a row 0 by subtracting a multiple of another row, whose first element that is not 0 is
// a 1 there.
func clearAt(row vecs.Vec, k int, other vecs.Vec) {
	multiple := row[k]
	if multiple == (fracs.Frac{}) {
		return
	}
	change(row, k, func(j int, x fracs.Frac) fracs.Frac {
		if other[j] == (fracs.Frac{}) {
			return x // as above
		}
		return fracs.Sub(x, fracs.Mul(multiple, other[j]))
	})
}

// change replaces the elements of a row, from index k on, by what f makes of their indices and values.
func change(row vecs.Vec, k int, f func(j int, x fracs.Frac) fracs.Frac) {
	for j := k; j < len(row); j++ {
		row[j] = f(j, row[j])
	}
}

// part returns the c columns from the given one on as a matrix.
func (g *grid) part(from, c int) mats.Mat {
	a := make([]fracs.Frac, len(g.rows)*c)
	for i, row := range g.rows {
		copy(a[i*c:], row[from:from+c])
	}
	return mats.Mat{R: len(g.rows), C: c, A: a}
}

// solve reduces a system of c unknowns, whose right-hand side is the column behind them. It returns the solution that is
// 0 at the columns without pivots, or false if there is none.
func (g *grid) solve(c int) (vecs.Vec, bool) {
	g.descend(c)
	for _, row := range g.rows[len(g.pivots):] {
		if row[c] != (fracs.Frac{}) {
			return nil, false
		}
	}
	g.ascend()
	x := make(vecs.Vec, c)
	for i, k := range g.pivots {
		x[k] = g.rows[i][c]
	}
	return x, true
}

// kernel returns the basis of the kernel of the first c columns, which are reduced.
func (g *grid) kernel(c int) []vecs.Vec {
	basis := make([]vecs.Vec, 0, c-len(g.pivots))
	ahead := g.pivots
	for k := range c {
		if len(ahead) > 0 && ahead[0] == k {
			ahead = ahead[1:]
			continue
		}
		v := make(vecs.Vec, c)
		v[k] = fracs.Int(1)
		for i, p := range g.pivots {
			v[p] = fracs.Neg(g.rows[i][k])
		}
		basis = append(basis, v)
	}
	return basis
}
