package exprs_test

import (
	"math/big"
	"strings"

	"gusset/api"
	"gusset/exprs"
)

// judge finds what an expression denotes with stacks instead of recursion: each byte is judged by what may follow the one
// before it, and an operator is carried out as soon as the byte behind its right operand shows that it has been read.
type judge struct {
	state  state
	at     int // of the last operator that waits for a number
	depth  int // of parentheses
	ops    []mark
	values []model
	fault  exprs.Fault
}

// state says what may come next.
type state int

const (
	atStart    state = iota // of an expression: an operand, or a sign
	atOperand               // an operand
	atDivisor               // a number
	atExponent              // a number
	behindBase              // an operator
	behindRest              // an operator other than ^
)

// mark is an operator, a sign (n), or an opening parenthesis, and its position.
type mark struct {
	c  byte
	at int
}

// judged returns what s denotes, or its first fault.
func judged(s string) (model, exprs.Fault) {
	if len(s) > 4096 {
		return model{}, exprs.Fault{E: api.ErrLimit}
	}
	j := &judge{}
	for i := 0; i < len(s) && j.fault.E == api.OK; i++ {
		switch {
		case s[i] == ' ':
		case j.state >= behindBase:
			j.operator(s[i], i)
		default:
			i += j.operand(s[i:], i) - 1
		}
	}
	if j.state >= behindBase {
		j.complete(0)
	}
	if j.state < behindBase || j.depth > 0 {
		j.fail(api.ErrForm, len(strings.TrimRight(s, " ")))
	}
	if j.fault.E != api.OK {
		return model{}, j.fault
	}
	return j.values[0], j.fault
}

// fail keeps the fault unless there is one already.
func (j *judge) fail(e api.Errno, at int) {
	if j.fault.E == api.OK {
		j.fault = exprs.Fault{E: e, At: at}
	}
}

// operand judges what stands at the front of s, where no operator may stand, and returns its length.
func (j *judge) operand(s string, at int) int {
	c, number := s[0], j.state == atDivisor || j.state == atExponent
	switch {
	case c >= '0' && c <= '9':
		digits := s[:1]
		if c != '0' {
			digits = s[:len(s)-len(strings.TrimLeft(s, "0123456789"))]
		}
		j.number(digits, at)
		return len(digits)
	case !number && (c == 'x' || c == 'y'):
		j.push(model{{int('y' - c), int(c - 'x')}: rat("1")})
	case !number && c == '(' && j.depth == 32:
		j.fail(api.ErrLimit, at)
	case !number && c == '(':
		j.depth++
		j.ops, j.state = append(j.ops, mark{c, at}), atStart
	case j.state == atStart && c == '-':
		j.ops, j.state = append(j.ops, mark{'n', at}), atOperand
	default:
		j.fail(api.ErrForm, at)
	}
	return 1
}

// push adds an operand.
func (j *judge) push(m model) { j.values, j.state = append(j.values, m), behindBase }

// number judges a number, which may be an operand, a divisor, or an exponent.
func (j *judge) number(digits string, at int) {
	n, size := rat(digits), 0
	top := len(j.values) - 1
	switch j.state {
	case atDivisor:
		size = j.values[top].size() + n.Num().BitLen()
		if n.Sign() == 0 {
			j.fail(api.ErrZero, at)
		}
		if j.limit(size) {
			j.values[top] = model{}.combined(n.Inv(n), j.values[top])
		}
	case atExponent:
		if n.Cmp(big.NewRat(12, 1)) > 0 || int(n.Num().Int64())*j.values[top].degree() > 12 {
			j.fail(api.ErrDegree, j.at)
			return
		}
		k := int(n.Num().Int64())
		if j.limit(k * j.values[top].size()) {
			j.values[top] = j.values[top].power(k)
		}
	default:
		j.push(constant(n))
		return
	}
	j.state = behindRest
}

// limit reports whether nothing stands against an operation on that many binary digits.
func (j *judge) limit(size int) bool {
	if size > 16384 {
		j.fail(api.ErrLimit, j.at)
	}
	return j.fault.E == api.OK
}

// operator judges a byte behind an operand.
func (j *judge) operator(c byte, at int) {
	if c == '^' && j.state == behindBase {
		j.state, j.at = atExponent, at
		return
	}
	j.complete(c)
	switch {
	case c == '/':
		j.state, j.at = atDivisor, at
	case c == '*' || c == '+' || c == '-':
		j.ops, j.state = append(j.ops, mark{c, at}), atOperand
	case c == ')' && j.depth > 0:
		j.depth--
		j.ops, j.state = j.ops[:len(j.ops)-1], behindBase
	default:
		j.fail(api.ErrForm, at)
	}
}

// complete carries out the operators whose right operand is complete before the byte c.
func (j *judge) complete(c byte) {
	j.reduce("*")
	if c != '*' && c != '/' {
		j.reduce("+-n")
	}
}

// reduce carries out the last operator if it is one of those.
func (j *judge) reduce(ops string) {
	last, top := len(j.ops)-1, len(j.values)-1
	if j.fault.E != api.OK || last < 0 || strings.IndexByte(ops, j.ops[last].c) < 0 {
		return
	}
	op, right := j.ops[last], j.values[top]
	j.ops, j.at = j.ops[:last], op.at
	if op.c == 'n' {
		j.values[top] = model{}.combined(rat("-1"), right)
		return
	}
	left := j.values[top-1]
	j.values = j.values[:top]
	if op.c == '*' && left.degree()+right.degree() > 12 {
		j.fail(api.ErrDegree, op.at)
	}
	if !j.limit(left.size() + right.size()) {
		return
	}
	switch op.c {
	case '*':
		j.values[top-1] = left.times(right)
	case '+':
		j.values[top-1] = left.combined(rat("1"), right)
	case '-':
		j.values[top-1] = left.combined(rat("-1"), right)
	}
}
