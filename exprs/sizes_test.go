package exprs_test

import (
	"math/big"
	"strings"
	"testing"

	"gusset/api"
	"gusset/exprs"
	"gusset/fracs"
	"gusset/ints"
	"gusset/nats"
	"gusset/polys"
)

// two returns 2^k in decimal digits.
func two(k int) string { return new(big.Int).Lsh(big.NewInt(1), uint(k)).String() }

// sized returns an expression in parentheses for a constant of the size n: mostly 2^(n-2), of n - 1 binary digits, and 1
// for its denominator.
func sized(n int) string {
	if n == 16383 { // the product would be beyond the limit
		return "(" + sized(n-1) + "/3)"
	}
	k := n - 2
	q := min(k/12, 1363)
	return "(" + two(q) + "^12*" + two(k-12*q) + ")"
}

// The sizes that the other tests rely on.
func TestSized(t *testing.T) {
	for _, n := range []int{2, 3, 26, 1366, 8192, 8193, 16000, 16369, 16370, 16382, 16383} {
		m, f := judged(sized(n))
		if m.size() != n || f != (exprs.Fault{}) {
			t.Errorf("size %d instead of %d, error %d", m.size(), n, f.E)
		}
	}
	if m, f := judged(great()); m.size() != 16385 || f != (exprs.Fault{}) {
		t.Errorf("size %d, error %d", m.size(), f.E)
	}
	if m, f := judged(full()); m.size() != 16384 || f != (exprs.Fault{}) {
		t.Errorf("size %d, error %d", m.size(), f.E)
	}
}

// great returns an expression in parentheses that is valid, for a polynomial of the size 16385: 2^8191 x + 2^8190.
func great() string { return "(" + sized(8193) + "*(x + 1/2))" }

// full returns an expression in parentheses for a polynomial of the size 16384: 2^8190 x + 2^8190.
func full() string { return "(" + sized(8192) + "*(x + 1))" }

// fits fails unless front, the operator and back make a valid expression.
func fits(t *testing.T, front, operator, back string) {
	t.Helper()
	if e := wantJudged(t, front+operator+back); e != api.OK {
		t.Fatalf("%s %s %s: error %d", brief(front), operator, brief(back), e)
	}
}

// bursts fails unless front, the operator and back make ErrLimit at the operator, whatever follows.
func bursts(t *testing.T, front, operator, back string) {
	t.Helper()
	for _, rest := range []string{"", " ", ")", " z", " x", "(", " + 1/0", " - x^13"} {
		wantFault(t, front+operator+back+rest, api.ErrLimit, len(front))
	}
	wantFault(t, " -("+front+operator+back, api.ErrLimit, len(front)+3)
	wantJudged(t, "(1 - "+front+operator+back+")")
}

// P11.1: sums, differences and products of constants of exactly MaxSize binary digits, and of one more.
func TestSizeOfTwo(t *testing.T) {
	for _, operator := range []string{"+", "-", "*"} {
		for _, n := range []int{2, 3, 26, 500, 4097, 8192, 12000, 15000} {
			fits(t, sized(n), operator, sized(16384-n))
			bursts(t, sized(n), operator, sized(16385-n))
		}
		fits(t, full(), operator, "0")
		fits(t, "0", operator, full())
		bursts(t, full(), operator, "1")
		bursts(t, great(), operator, "0")
		bursts(t, "0", operator, great())
		bursts(t, "1", operator, full())
	}
}

// P11.1: the sizes of all terms count, those of numerators without their signs, and those of denominators.
func TestSizeOfTerms(t *testing.T) {
	for _, x := range []struct {
		s string
		n int
	}{
		{"1", 2}, {"-1", 2}, {"x", 2}, {"-x^3*y", 2}, {"3/4", 5}, {"-3/4*x", 5}, {"2/4", 3}, {"1/255", 9}, {"1/256", 10}, {"x + y + 1", 6}, {"x - y/3 - 5", 9},
		{"(x + y + 1)^2", 15}, {"(x - y)^12 - x*y", 103}, {"18446744073709551615*x - 18446744073709551616/3", 132},
	} {
		m, _ := judged(x.s)
		if m.size() != x.n {
			t.Fatalf("%s has the size %d", x.s, m.size())
		}
		for _, operator := range []string{"+", "-", "*"} {
			fits(t, "("+x.s+")", operator, sized(16384-x.n))
			bursts(t, sized(16385-x.n), operator, "("+x.s+")")
		}
	}
	for _, n := range []int{9000, 13000} {
		fits(t, "1/"+two(n), "+", sized(16384-n-2))
		bursts(t, "1/"+two(n), "+", sized(16384-n-1))
	}
}

// P11.1: quotients whose dividend and number have exactly MaxSize binary digits, and one more.
func TestSizeOfQuotient(t *testing.T) {
	for _, n := range []int{2, 9, 10, 26, 500, 4097, 8192, 12000} {
		bits := 16384 - n
		if bits < 9000 {
			fits(t, sized(n), "/", two(bits-1))
			bursts(t, sized(n), "/", two(bits))
		}
		fits(t, sized(bits), "/", two(min(n, 8000)-1))
		if n < 9000 {
			bursts(t, sized(bits), "/", two(n))
		}
	}
	bursts(t, full(), "/", "1")
	bursts(t, full()+" ", "/", " 1")
	bursts(t, great(), "/", "1")
	bursts(t, great(), "/", "12345678901234567890")
	fits(t, sized(16383), "/", "1")
	bursts(t, sized(16383), "/", "2")
	bursts(t, sized(16383), "/", "3")
}

// P11.1: powers whose base has so many binary digits that the exponent times them is at most MaxSize, and one more.
func TestSizeOfPower(t *testing.T) {
	for n := 2; n <= 12; n++ {
		exponent := big.NewInt(int64(n)).String()
		fits(t, sized(16384/n), "^", exponent)
		bursts(t, sized(16384/n+1), "^", exponent)
	}
	fits(t, full(), "^", "1")
	fits(t, full(), "^", "0")
	fits(t, great(), "^", "0")
	bursts(t, great(), "^", "1")
	bursts(t, great(), "^", "12")
	bursts(t, full(), "^", "2")
	fits(t, "(0*y)", "^", "12")
	fits(t, "(x/"+two(8188)+" + 1)", "^", "2")
	bursts(t, "(x/"+two(8189)+" + 1)", "^", "2")
}

// P11.1: neither the leading "-" nor parentheses are operations.
func TestSizeOfNoOperation(t *testing.T) {
	p, f := exprs.Parse(great())
	if f != (exprs.Fault{}) {
		t.Fatalf("error %d at %d", f.E, f.At)
	}
	want(t, "(("+great()+"))", p)
	want(t, "-"+great(), polys.Neg(p))
	want(t, "-(-"+great()+")", p)
	wantFault(t, "-"+great()+" + 0", api.ErrLimit, len(great())+2)
}

// P11.1: ErrLimit is behind ErrZero and ErrDegree of the same operator, and behind all faults of its right operand.
func TestSizeComesLast(t *testing.T) {
	at := len(great())
	for _, x := range []struct {
		back string
		e    api.Errno
		at   int
	}{
		{"/0", api.ErrZero, 1}, {"/ 00", api.ErrZero, 2}, {"^13", api.ErrDegree, 0}, {"^99999999999999999999", api.ErrDegree, 0}, {"*x^12", api.ErrDegree, 0}, {"*y^13", api.ErrDegree, 2},
		{"+", api.ErrForm, 1}, {"*z", api.ErrForm, 1}, {"/x", api.ErrForm, 1}, {"/", api.ErrForm, 1}, {"^", api.ErrForm, 1}, {"^y", api.ErrForm, 1}, {" y", api.ErrForm, 1}, {")", api.ErrForm, 0},
		{"+ (x", api.ErrForm, 4}, {"- x/0", api.ErrZero, 4}, {"+ x*y^13", api.ErrDegree, 5}, {"+ x^12*y", api.ErrDegree, 6}, {"+ x*", api.ErrForm, 4}, {"+ x*z", api.ErrForm, 4}, {"*(x/0)", api.ErrZero, 4}, {"*(x + y", api.ErrForm, 7}, {"*x^", api.ErrForm, 3},
		{"+ " + great() + "*x", api.ErrLimit, at + 2}, {"*" + great() + "^2", api.ErrLimit, at + 1}, {"*(" + strings.Repeat("(", 32), api.ErrLimit, 33},
		{"+ x*y + z", api.ErrLimit, 0}, {"*x + z", api.ErrLimit, 0}, {"*x*z", api.ErrLimit, 0}, {"+ x)", api.ErrLimit, 0}, {"/2z", api.ErrLimit, 0}, {"^2z", api.ErrLimit, 0}, {"^1^2", api.ErrLimit, 0},
	} {
		wantFault(t, great()+x.back, x.e, at+x.at)
		wantJudged(t, great()+x.back)
	}
}

// longest returns the most binary digits that a numerator or a denominator of p has.
func longest(p polys.Poly) int {
	n := 0
	for _, t := range p {
		n = max(n, nats.Bits(ints.Abs(fracs.Num(t.C))), nats.Bits(fracs.Den(t.C)))
	}
	return n
}

// P11.3: however often powers are nested, numbers stay short: here within MaxSize, and what a sum of terms adds.
func TestNestedPowers(t *testing.T) {
	greatest := 0
	for _, base := range []string{"2", "9", "1/3", "98765432109876543210", "2*x", "x + 1", "x + y + 1/2", "7/5*x - 3", "1/7*x + 1/5*y + 1/3", two(1300)} {
		for _, exponent := range []string{"^2", "^3", "^12", "^5*3", "^2/7", "^2*x^0 + 1/11"} {
			p, s := polys.Poly{}, "("+base+")"
			for range 30 {
				s = "(" + s + exponent + ")"
				q, f := exprs.Parse(s)
				if f.E != api.OK && f.E != api.ErrLimit && f.E != api.ErrDegree {
					t.Fatalf("%s: error %d at %d", brief(s), f.E, f.At)
				}
				if f.E == api.OK {
					p = q
				}
			}
			greatest = max(greatest, longest(p))
		}
	}
	if greatest < 12000 || greatest > 16384+64 {
		t.Errorf("a number has %d binary digits", greatest)
	}
	wantFault(t, strings.Repeat("(", 32)+"9"+strings.Repeat("^12)", 32), api.ErrLimit, 32+1+3*4)
}
