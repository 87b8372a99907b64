package exprs

import (
	"strings"

	"gusset/api"
	"gusset/nats"
	"gusset/polys"
)

// reader reads an expression from left to right.
type reader struct {
	s    string
	at   int // the position of the next byte
	nest int // the number of open parentheses
}

// skip passes over spaces, and returns the position behind them.
func (r *reader) skip() int {
	for r.at < len(r.s) && r.s[r.at] == ' ' {
		r.at++
	}
	return r.at
}

// accept reads the next byte behind spaces if it is one of choices. It returns the position of that byte, or of the end.
func (r *reader) accept(choices string) (at int, ok bool) {
	at = r.skip()
	if at == len(r.s) || strings.IndexByte(choices, r.s[at]) < 0 {
		return at, false
	}
	r.at++
	return at, true
}

// demand reads the next byte behind spaces, which must be one of choices, and returns its position.
func (r *reader) demand(choices string) int {
	at, ok := r.accept(choices)
	if !ok {
		fail(api.ErrForm, at)
	}
	return at
}

// number reads a number, and returns it and its position.
func (r *reader) number() (n nats.Nat, at int) {
	at = r.demand("0123456789")
	for r.s[at] != '0' && r.atDigit() { // a 0 at the front stands alone
		r.at++
	}
	n, _ = nats.Parse(r.s[at:r.at]) // no number in a line is longer than MaxDigits
	return n, at
}

// atDigit reports whether the next byte is a digit.
func (r *reader) atDigit() bool {
	return r.at < len(r.s) && r.s[r.at] >= '0' && r.s[r.at] <= '9'
}

// inside reads what stands behind an opening parenthesis, by content, and the closing one. at is the position of the
// opening one.
func (r *reader) inside(at int, content func() polys.Poly) polys.Poly {
	if r.nest == MaxNest {
		fail(api.ErrLimit, at)
	}
	r.nest++
	p := content()
	r.demand(")")
	r.nest--
	return p
}
