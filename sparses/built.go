package sparses

import (
	"gusset/api"
	"gusset/fracs"
)

// Builder accumulates the entries of a matrix.
type Builder struct {
	n, m    int
	entries map[place]fracs.Frac // none of them is 0
}

// place is the position of an entry.
type place struct{ row, col int }

// New returns a Builder for an n by m matrix of zeros.
func New(n, m int) (*Builder, api.Errno) {
	if e := size(n, m); e != api.OK {
		return nil, e
	}
	return blank(n, m), api.OK
}

// Add adds v to the entry at (row, col).
func (b *Builder) Add(row, col int, v fracs.Frac) api.Errno {
	if b == nil {
		return api.ErrNil
	}
	if !index(row, b.n) || !index(col, b.m) {
		return api.ErrArg
	}
	at := place{row, col}
	sum := fracs.Add(b.entries[at], v)
	if sum == (fracs.Frac{}) {
		delete(b.entries, at)
	} else {
		b.entries[at] = sum
	}
	return api.OK
}

// At returns the entry at (row, col).
func (b *Builder) At(row, col int) fracs.Frac {
	if b == nil {
		return fracs.Frac{}
	}
	return b.entries[place{row, col}]
}

// Sparse returns the matrix built so far.
func (b *Builder) Sparse() Sparse {
	if b == nil {
		return Sparse{}
	}
	columns := make([][]Entry, b.m)
	for at, v := range b.entries {
		columns[at.col] = append(columns[at.col], Entry{Col: at.row, V: v})
	}
	// The map gives the entries of a column in any order. But turned goes over the columns in theirs, and finds at most
	// one entry for each row in a column: so the rows become sorted.
	return turned(Sparse{N: b.m, M: b.n, Rows: columns})
}

// Of returns the matrix whose entries are sums of items.
func Of(n, m int, l ...Item) (Sparse, api.Errno) {
	b, e := New(n, m)
	if e != api.OK {
		return Sparse{}, e
	}
	for _, x := range l {
		if e := b.Add(x.Row, x.Col, x.V); e != api.OK {
			return Sparse{}, e
		}
	}
	return b.Sparse(), api.OK
}

// One returns the identity matrix.
func One(n int) (Sparse, api.Errno) {
	if e := size(n, n); e != api.OK {
		return Sparse{}, e
	}
	rows := make([][]Entry, n)
	for i := range rows {
		rows[i] = []Entry{{Col: i, V: fracs.Int(1)}}
	}
	return Sparse{N: n, M: n, Rows: rows}, api.OK
}

// blank returns a Builder for an n by m matrix of zeros. Its size is a valid one.
func blank(n, m int) *Builder {
	return &Builder{n: n, m: m, entries: map[place]fracs.Frac{}}
}
