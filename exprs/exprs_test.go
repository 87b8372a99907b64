package exprs_test

import (
	"strings"
	"testing"

	"gusset/api"
	"gusset/exprs"
	"gusset/fracs"
	"gusset/polys"
)

// The chapter's examples.
func TestExamples(t *testing.T) {
	wantText(t, "x^2*y - 3/4*(x + 1)", "-3/4 - 3/4*x + x^2*y")
	for _, x := range [][2]string{{"-x^2", "-x^2"}, {"2*3/6", "1"}, {"(x + y)^2", "x^2 + 2*x*y + y^2"}, {"x*x/2/3", "1/6*x^2"}, {"0*x", "0"}} {
		wantText(t, x[0], x[1])
	}
	for i, s := range []string{"", "x +", "x y", "01", "2*-x", "(x", "x)", "1/x"} {
		wantFault(t, s, api.ErrForm, []int{0, 3, 2, 1, 2, 2, 1, 2}[i])
	}
	wantFault(t, "1/0", api.ErrZero, 2)
	wantFault(t, "x/ 0", api.ErrZero, 3)
	for i, s := range []string{"x^13", "x^7*y^6", "(x^2)^7", "1^13"} {
		wantFault(t, s, api.ErrDegree, []int{1, 3, 5, 1}[i])
	}
	wantFault(t, "(((9^12)^12)^12)^12", api.ErrLimit, 16)
	p, f := exprs.Parse("((9^12)^12)^12")
	if f != (exprs.Fault{}) || len(fracs.Text(polys.Coef(p, 0, 0))) != 1649 {
		t.Errorf("9^1728 is %s, error %d", polys.Text(p), f.E)
	}
}

// The chapter's constants.
func TestConstants(t *testing.T) {
	if exprs.MaxNest != 32 || exprs.MaxSize != 16384 {
		t.Errorf("MaxNest %d, MaxSize %d", exprs.MaxNest, exprs.MaxSize)
	}
}

// P11.1 and P11.2: each kind of base, factor, term and expression, against its terms.
func TestValues(t *testing.T) {
	for _, x := range []struct {
		s string
		p polys.Poly
	}{
		{"0", nil}, {"1", polys.Poly{term("1", 0, 0)}}, {"x", polys.Poly{term("1", 1, 0)}}, {"y", polys.Poly{term("1", 0, 1)}},
		{"-0", nil}, {"x - x", nil}, {"x*0", nil}, {"0/5", nil}, {"0^7", nil}, {"0^0", polys.Poly{term("1", 0, 0)}}, {"(x - x)^0", polys.Poly{term("1", 0, 0)}},
		{"1234567890", polys.Poly{term("1234567890", 0, 0)}}, {"18446744073709551616*y", polys.Poly{term("18446744073709551616", 0, 1)}},
		{"10", polys.Poly{term("10", 0, 0)}}, {"x^1", polys.Poly{term("1", 1, 0)}}, {"x^12", polys.Poly{term("1", 12, 0)}}, {"y^10", polys.Poly{term("1", 0, 10)}},
		{"2^12", polys.Poly{term("4096", 0, 0)}}, {"10^12", polys.Poly{term("1000000000000", 0, 0)}}, {"((x))", polys.Poly{term("1", 1, 0)}},
		{"x^6*y^6", polys.Poly{term("1", 6, 6)}}, {"y*x", polys.Poly{term("1", 1, 1)}}, {"y + x + 1", polys.Poly{term("1", 0, 0), term("1", 1, 0), term("1", 0, 1)}},
		{"6/4", polys.Poly{term("3/2", 0, 0)}}, {"x/18446744073709551617", polys.Poly{term("1/18446744073709551617", 1, 0)}},
		{"x/10", polys.Poly{term("1/10", 1, 0)}}, {"(x + 2)/4", polys.Poly{term("1/2", 0, 0), term("1/4", 1, 0)}},
	} {
		want(t, x.s, x.p)
	}
}

// P11.1: which operator is carried out before which, and from which side.
func TestOrder(t *testing.T) {
	for _, x := range [][2]string{
		{"1 - 2 - 3", "-4"}, {"1 - 2 + 3", "2"}, {"1 - (2 + 3)", "-4"}, {"8/4/2", "1"}, {"8/4*2", "4"}, {"8*4/2", "16"}, {"1/2*x", "1/2*x"},
		{"1 + 2*3", "7"}, {"2*3 + 1", "7"}, {"(1 + 2)*3", "9"}, {"1 - 6/2", "-2"}, {"2*3^2", "18"}, {"(2*3)^2", "36"}, {"2^2*3", "12"}, {"2^3/4", "2"},
		{"-2^2", "-4"}, {"(-2)^2", "4"}, {"-2*3 + 4", "-2"}, {"-2 + 3", "1"}, {"-(2 + 3)", "-5"}, {"-x/2 - y", "-1/2*x - y"}, {"-x*y + x*y", "0"},
		{"3*(-x)", "-3*x"}, {"(-x)*(-y)", "x*y"}, {"(-1)^3*x", "-x"}, {"-(-(-x))", "-x"}, {"((1 - x)^2 - 1)*y", "-2*x*y + x^2*y"}, {"2 - x^0", "1"},
		{"x*(y + 1)^2/3 - 1/3*x", "2/3*x*y + 1/3*x*y^2"}, {"(2*x)^3", "8*x^3"}, {"(x/2)^2*8", "2*x^2"}, {"(x^2)^3", "x^6"}, {"((x + y)^2)^2 - (x + y)^4", "0"},
	} {
		wantText(t, x[0], x[1])
	}
	wantFault(t, "x/2^2", api.ErrForm, 3) // a power is no number
	wantFault(t, "-x - -y", api.ErrForm, 5)
}

// P11.1: every string of at most five of these bytes, against the definition.
func TestShort(t *testing.T) {
	const bytes = " 01x+-*/^()"
	count := map[api.Errno]int{}
	texts := []string{""}
	for n := 0; n <= 5; n++ {
		var longer []string
		for _, s := range texts {
			count[wantJudged(t, s)]++
			for i := range len(bytes) {
				longer = append(longer, s+bytes[i:i+1])
			}
		}
		texts = longer
	}
	for e, least := range map[api.Errno]int{api.OK: 2000, api.ErrForm: 150000, api.ErrZero: 700, api.ErrDegree: 10} {
		if count[e] < least {
			t.Errorf("only %d texts with the error %d", count[e], e)
		}
	}
}

// words returns a random expression, in tokens that are separated by spaces, most of them valid.
func (s *series) words(depth int) string {
	var l []string
	if s.below(4) == 0 {
		l = append(l, "-")
	}
	for i := range 1 + s.below(3) {
		if i > 0 {
			l = append(l, s.pick("+ -"))
		}
		for k := range 1 + s.below(3) {
			if k > 0 && s.below(3) == 0 {
				l = append(l, "/", s.pick("1 2 3 7 10 12 123456789012345678901 0 2 4 5"))
				continue
			}
			if k > 0 {
				l = append(l, "*")
			}
			l = append(l, s.factor(depth))
		}
	}
	return strings.Join(l, " ")
}

// factor returns a random factor.
func (s *series) factor(depth int) string {
	base := s.pick("x y x y 0 1 2 3 10 24 98765432109876543210")
	if depth > 0 && s.below(2) == 0 {
		base = "( " + s.words(depth-1) + " )"
	}
	if s.below(60) == 0 {
		base = "( " + strings.Repeat(s.pick("3 57 9"), 100+s.below(120)) + " ^ " + s.pick("3 12 10") + " * x ^ 0 + y )"
	}
	if s.below(3) == 0 {
		return base + " ^ " + s.pick("0 1 2 2 3 3 4 1 2 2 12 13 100000000000000000000")
	}
	return base
}

// spaced returns a text of words with as many spaces between them as chance will have.
func (s *series) spaced(words string) string {
	var out strings.Builder
	for _, w := range strings.Fields(words) {
		out.WriteString(strings.Repeat(" ", max(s.below(5)-2, 0)) + w)
	}
	return out.String() + strings.Repeat(" ", max(s.below(5)-2, 0))
}

// broken returns s with a byte that is changed, taken out, or put in.
func (s *series) broken(text string) string {
	at, end := s.below(len(text)+1), s.below(2)
	return text[:at] + s.pick("x y 0 7 + - * / ^ ( ) . z \x00 \xff X") + text[min(at+end, len(text)):]
}

// P11.1: random expressions, and such with a byte that is wrong, against the definition.
func TestRandom(t *testing.T) {
	s, count := &series{1102}, map[api.Errno]int{}
	for i := range 12000 {
		text := s.spaced(s.words(i % 5))
		if len(text) > 1500 {
			continue
		}
		if i%3 == 0 {
			text = s.broken(text)
		}
		count[wantJudged(t, text)]++
	}
	for e, least := range map[api.Errno]int{api.OK: 2500, api.ErrForm: 1000, api.ErrZero: 500, api.ErrDegree: 500, api.ErrLimit: 60} {
		if count[e] < least {
			t.Errorf("only %d texts with the error %d", count[e], e)
		}
	}
}
