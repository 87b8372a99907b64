package exprs_test

import (
	"strings"
	"testing"

	"gusset/api"
	"gusset/exprs"
)

// P11.1: bytes that cannot appear at their position, and inputs that end too early.
func TestForm(t *testing.T) {
	for _, x := range []struct {
		s  string
		at int
	}{
		{"", 0}, {" ", 0}, {"     ", 0}, {"-", 1}, {" - ", 2}, {"x+", 2}, {"x *   ", 3}, {"x/", 2}, {"x / ", 3}, {"x^", 2}, {"x ^ ", 3}, {"(", 1}, {"(  ", 1}, {"(x", 2}, {"(x ", 2}, {"((x)", 4}, {"(x + ", 4}, {"2*(-", 4},
		{"+x", 0}, {"*x", 0}, {"/2", 0}, {"^2", 0}, {")", 0}, {" )", 1}, {"()", 1}, {"( )", 2}, {"(+x)", 1}, {"(x+)", 3}, {"--x", 1}, {"- -x", 2}, {"-+x", 1}, {"x+-y", 2}, {"x - - y", 4}, {"2*-x", 2}, {"2/-1", 2}, {"x^-1", 2}, {"x^ +1", 3}, {"x**2", 2}, {"x//2", 2}, {"x^^2", 2}, {"x+*y", 2},
		{"x y", 2}, {"xy", 1}, {"xx", 1}, {"x2", 1}, {"2x", 1}, {"2 x", 2}, {"2 3", 2}, {"x(y)", 1}, {"(x)(y)", 3}, {"(x) y", 4}, {"(x)2", 3}, {"2(x)", 1}, {"x)", 1}, {"(x))", 3}, {"x + y)", 5},
		{"01", 1}, {"00", 1}, {"x + 007", 5}, {"x^02", 3}, {"x^00", 3}, {"x^0 1", 4}, {"1 0", 2}, {"x^1 2", 4}, {"1/1 2", 4}, {"-01", 2},
		{"1/x", 2}, {"1/(2)", 2}, {"x^y", 2}, {"x^(2)", 2}, {"x^2^2", 3}, {"x^2 ^2", 4}, {"x/2^2", 3}, {"x/2 ^ 2", 4}, {"2^2x", 3}, {"1/2x", 3}, {"1/2(x)", 3}, {"x^2(y)", 3},
		{"z", 0}, {"X", 0}, {"Y", 0}, {"1.5", 1}, {"1e3", 1}, {"x\t", 1}, {"\tx", 0}, {"x\n", 1}, {"x\r\n", 1}, {"x\x00", 1}, {"\x00", 0}, {"x + \x00", 4}, {"x\u00a0", 1}, {"x\u00b2", 1}, {"x\u2212y", 1}, {"\u0661", 0}, {"x;", 1}, {"[x]", 0}, {"(x]", 2}, {"x = y", 2},
	} {
		wantFault(t, x.s, api.ErrForm, x.at)
	}
}

// P11.1: every byte at the front, and behind an operand, an operator and a digit.
func TestBytes(t *testing.T) {
	for c := range 256 {
		for _, front := range []string{"", " ", "-", "x", "x ", "x^2", "x/2", "1", "0", "(", "(x", "x + ", "x^", "x/", "x*", "(x)"} {
			for _, rest := range []string{"", " ", "x", ")"} {
				wantJudged(t, front+string([]byte{byte(c)})+rest)
			}
		}
		if strings.IndexByte(" 0123456789xy-(", byte(c)) < 0 {
			wantFault(t, string([]byte{byte(c)}), api.ErrForm, 0)
		}
	}
}

// P11.1: parentheses nested up to MaxNest and deeper, where they may stand and where they may not.
func TestNest(t *testing.T) {
	open, closed := strings.Repeat("(", 32), strings.Repeat(")", 32)
	for _, x := range [][2]string{
		{open + "x" + closed, "x"}, {open + "x" + closed + "*(y)", "x*y"}, {"-(" + strings.Repeat("x*(", 11) + strings.Repeat("2 - (", 20) + "1" + closed, "-x^11"},
		{strings.Repeat("(1 + ", 32) + "y" + closed, "32 + y"}, {"(" + strings.Repeat("(x) + ", 100) + "(y))", "100*x + y"},
		{strings.Repeat("(((x))) - ", 300) + open + "y" + closed + "^2", "-298*x - y^2"},
	} {
		wantText(t, x[0], x[1])
	}
	wantFault(t, open+"(", api.ErrLimit, 32)
	wantFault(t, open+"  (x)"+closed, api.ErrLimit, 34)
	wantFault(t, open+"x*(x)"+closed, api.ErrLimit, 34)
	wantFault(t, open+"x(", api.ErrForm, 33)
	wantFault(t, open+"x^(", api.ErrForm, 34)
	wantFault(t, open+"1/(", api.ErrForm, 34)
	wantFault(t, open, api.ErrForm, 32)
	wantFault(t, open+"x"+closed[1:], api.ErrForm, 64)
	wantFault(t, open+"x"+closed+")", api.ErrForm, 65)
	wantFault(t, "(x)*"+open+"x*((", api.ErrLimit, 38)
	wantFault(t, strings.Repeat("(", 4096), api.ErrLimit, 32)
	wantFault(t, strings.Repeat("(x)*(", 30)+"(x) + ((y))"+"(", api.ErrForm, 161)
}

// P11.1: a number 0 behind "/", with and without spaces and parentheses, before all that stands behind it.
func TestZero(t *testing.T) {
	for _, x := range []struct {
		s  string
		at int
	}{
		{"1/0", 2}, {"x/ 0", 3}, {"0/0", 2}, {"x  /   0  ", 7}, {"x/2/0", 4}, {"x*y/0", 4}, {"(x/0", 3}, {"(x/0)", 3}, {"x + y/0 + z", 6}, {"x/00", 2}, {"x/01", 2}, {"x/0 1", 2}, {"x/0^2", 2}, {"x/0)", 2}, {"x/0x", 2}, {"x/0*x^13", 2}, {"1/0/0", 2}, {"-1/0", 3},
	} {
		wantFault(t, x.s, api.ErrZero, x.at)
	}
	wantText(t, "x/10 + 0/7 + 0", "1/10*x")
	wantFault(t, "x^13/0", api.ErrDegree, 1)
	wantFault(t, "x^12*x/0", api.ErrDegree, 4)
}

// P11.1: products and powers up to MaxDegree and beyond.
func TestDegree(t *testing.T) {
	for _, x := range []struct {
		s  string
		at int
	}{
		{"x^13", 1}, {"y ^ 13", 2}, {"1^13", 1}, {"0^13", 1}, {"(x - x)^13", 7}, {"x^100", 1}, {"x^18446744073709551616", 1}, {"x^18446744073709551617", 1}, {"0^36893488147419103232", 1}, {"1^9223372036854775808", 1}, {"x^4294967296", 1}, {"1^" + strings.Repeat("9", 4000), 1},
		{"(x^2)^7", 5}, {"(x*y)^7", 5}, {"(x + 1)^13", 7}, {"(x^12)^2", 6}, {"(1 + x^5*y^2)^2", 13}, {"((x^2)^3)^3", 9}, {"(x^4 + y^5)^3", 11},
		{"x^7*y^6", 3}, {"x^12*x", 4}, {"x * y ^ 12", 2}, {"x^6*x^6*x", 7}, {"x*x^12*y^2", 1}, {"(x^7 + 1)*(y^6 - 1)", 9}, {"x^12 * (1 - x)", 5}, {"x^7/2*y^6", 5}, {"2*x^12*3*y", 8}, {"x^6*y^7*0", 3}, {"(x^12*x)^0", 5},
		{"1 + x^13", 5}, {"(x^13", 2}, {"x^13)", 1}, {"x^13z", 1}, {"x^13^2", 1}, {"x^130 1", 1}, {"x^7*y^6)", 3}, {"x^7*y^6z", 3}, {"x^7*y^6^2", 3}, {"x^12*y 1", 4}, {"x^12*y/0", 4}, {"x^12*y*x^13", 4}, {"x^12*(y)", 4}, {"x^12*(y))", 4}, {"x^12*x^13", 6}, {"x^13*x^12", 1},
	} {
		wantFault(t, x.s, api.ErrDegree, x.at)
	}
	for _, x := range [][2]string{
		{"x^12", "x^12"}, {"(x*y)^6", "x^6*y^6"}, {"(x^2)^6", "x^12"}, {"x^6*y^6*5", "5*x^6*y^6"}, {"x^12*y^0", "x^12"}, {"(x^12)^1", "x^12"}, {"(x^12)^0", "1"}, {"x^12*0", "0"}, {"x^12*(y - y)", "0"}, {"0*x^12*x", "0"}, {"(x^12 - x^12)^12", "0"},
		{"((x^12 + x) - x^12)^12", "x^12"}, {"(x^7 - x^7 + y)*x^11", "x^11*y"}, {"3^12", "531441"}, {"x^12 + x^12", "2*x^12"}, {"x^12/12", "1/12*x^12"},
	} {
		wantText(t, x[0], x[1])
	}
	// As long as the second factor, or the exponent, has not been read, its faults come first.
	for _, x := range []struct {
		s  string
		e  api.Errno
		at int
	}{
		{"x^7*(y^6", api.ErrForm, 8}, {"x^7*y^", api.ErrForm, 6}, {"x^12*", api.ErrForm, 5}, {"x^12*z", api.ErrForm, 5}, {"x^12*(y/0)", api.ErrZero, 8}, {"x^12*(y + )", api.ErrForm, 10}, {"x^12*((y)", api.ErrForm, 9}, {"x^12)", api.ErrForm, 4}, {"x^12 3", api.ErrForm, 5}, {"x^12^2", api.ErrForm, 4}, {"x^ z", api.ErrForm, 3}, {"(x^2)^z", api.ErrForm, 6}, {"x^1/13/0", api.ErrZero, 7},
		{"x^12*" + strings.Repeat("(", 33), api.ErrLimit, 37},
	} {
		wantFault(t, x.s, x.e, x.at)
	}
}

// P11.1: texts of MaxLine bytes, and longer ones, whatever stands in them.
func TestLine(t *testing.T) {
	wantText(t, strings.Repeat("1+", 2047)+"x", "2047 + x")
	wantText(t, strings.Repeat("x+", 2047)+"11", "11 + 2047*x")
	wantText(t, strings.Repeat(" ", 4095)+"x", "x")
	wantText(t, "y"+strings.Repeat(" ", 4095), "y")
	wantText(t, "-"+strings.Repeat(" ", 4094)+"y", "-y")
	wantText(t, strings.Repeat("12", 2048), strings.Repeat("12", 2048))
	wantText(t, "1/"+strings.Repeat("12", 2047), "1/"+strings.Repeat("12", 2047))
	wantFault(t, strings.Repeat(" ", 4096), api.ErrForm, 0)
	wantFault(t, "x+"+strings.Repeat(" ", 4094), api.ErrForm, 2)
	wantFault(t, strings.Repeat("x+", 2048), api.ErrForm, 4096)
	for _, s := range []string{
		strings.Repeat("1+", 2048) + "x", strings.Repeat(" ", 4096) + "x", "x" + strings.Repeat(" ", 4096), strings.Repeat(" ", 4097), strings.Repeat("(", 5000), strings.Repeat("z", 4097), "1/0" + strings.Repeat("+1", 4000), strings.Repeat("1", 4097),
		strings.Repeat("x", 1<<20),
	} {
		wantFault(t, s, api.ErrLimit, 0)
	}
}

// P11.2: without a fault, the error of Value is OK, and the zero Fault is that without an error.
func TestNoFault(t *testing.T) {
	if _, f := exprs.Parse("x"); f.E != api.OK || f.At != 0 {
		t.Errorf("error %d at %d", f.E, f.At)
	}
	if _, e := exprs.Value("x"); e != api.OK {
		t.Errorf("error %d", e)
	}
}
