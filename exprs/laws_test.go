package exprs_test

import (
	"slices"
	"strings"
	"testing"

	"gusset/api"
	"gusset/exprs"
	"gusset/polys"
)

// P11.3: parsing the text of a polynomial returns the polynomial.
func TestTexts(t *testing.T) {
	for _, m := range models() {
		want(t, polys.Text(m.poly()), m.poly())
	}
	s := &series{1103}
	for i := range 400 {
		p := s.model(1+i%30, i%13).poly()
		want(t, polys.Text(p), p)
	}
}

// P11.3: parenthesized expressions with an operator between them.
func TestParentheses(t *testing.T) {
	products := 0
	for _, m := range models() {
		for _, n := range models() {
			a, b := m.poly(), n.poly()
			front, back := "("+polys.Text(a)+")", "("+polys.Text(b)+")"
			want(t, front+" + "+back, polys.Add(a, b))
			want(t, front+"-"+back, polys.Sub(a, b))
			p, e := polys.Mul(a, b)
			if e != api.OK {
				wantFault(t, front+"*"+back, e, len(front))
				continue
			}
			want(t, front+"*"+back, p)
			products++
		}
	}
	if products < 300 {
		t.Errorf("only %d products are within MaxDegree", products)
	}
}

// tokens returns the tokens of s, which is valid.
func tokens(s string) []string {
	var l []string
	for i := range len(s) {
		digit := s[i] >= '0' && s[i] <= '9'
		switch {
		case s[i] == ' ':
		case digit && i > 0 && s[i-1] >= '0' && s[i-1] <= '9':
			l[len(l)-1] += s[i : i+1]
		default:
			l = append(l, s[i:i+1])
		}
	}
	return l
}

// valid returns texts without a fault.
func valid() []string {
	list := []string{"0", "x", "-y", "10", "x^12", "2/30", "(x)", "-(-(x))", "x^2*y - 3/4*(x + 1)", "12*x^10/100 + (3 - y)^2*7"}
	s := &series{1104}
	for len(list) < 150 {
		text := s.words(len(list) % 4)
		if _, f := exprs.Parse(text); f.E == api.OK && len(text) < 400 {
			list = append(list, text)
		}
	}
	return list
}

// P11.3: spaces between tokens have no effect, and neither have those around the expression.
func TestSpaces(t *testing.T) {
	for i, s := range valid() {
		p, _ := exprs.Parse(s)
		l := tokens(s)
		want(t, strings.Join(l, ""), p)
		want(t, strings.Join(l, " "), p)
		want(t, "   "+strings.Join(l, "  ")+"    ", p)
		for k := range l {
			want(t, strings.Join(l[:k], "")+strings.Repeat(" ", i%5)+strings.Join(l[k:], ""), p)
		}
	}
}

// P11.1: within a number they may not stand.
func TestSpacesInNumbers(t *testing.T) {
	for _, s := range []string{"12", "x + 345", "x^12", "x/10*y", "(99 - x)", "-10", "2*1234567"} {
		for i := 1; i < len(s); i++ {
			if s[i-1] >= '0' && s[i-1] <= '9' && s[i] >= '0' && s[i] <= '9' {
				wantFault(t, s[:i]+" "+s[i:], api.ErrForm, i+1)
			}
		}
	}
}

// P11.1: what is valid up to its end has no fault before the place where it is cut off, or where a foreign byte stands.
func TestCut(t *testing.T) {
	for _, s := range valid() {
		for i := range len(s) + 1 {
			wantFault(t, s[:i]+"?"+s[i:], api.ErrForm, i)
			wantFault(t, s[:i]+"?", api.ErrForm, i)
			if p, f := exprs.Parse(s[:i]); f.E != api.OK && (f.E != api.ErrForm || f.At != len(strings.TrimRight(s[:i], " ")) || len(p) > 0) {
				t.Fatalf("%s: error %d at %d", brief(s[:i]), f.E, f.At)
			}
		}
	}
}

// P11.3: the input behind the position of a fault ErrForm, ErrZero, or ErrLimit at a parenthesis, does not affect it.
func TestBehindFault(t *testing.T) {
	s, faults := &series{1105}, 0
	texts := []string{"x y", "01", "2*-x", "x)", "1/x", "1/0", "x/ 00", strings.Repeat("(", 33), "x*" + strings.Repeat("-(x + ", 3) + "2/0", "(x*" + strings.Repeat("(", 33)}
	for range 300 {
		texts = append(texts, s.broken(s.spaced(s.words(2))))
	}
	for _, text := range texts {
		_, f := exprs.Parse(text)
		if f.At == len(strings.TrimRight(text, " ")) || f.E != api.ErrForm && f.E != api.ErrZero && (f.E != api.ErrLimit || text[f.At] != '(') {
			continue
		}
		faults++
		for _, rest := range []string{"", " ", "0", "x", "1/0", ")", "(((", "^13", "*x^13", " + 1", "\x00", strings.Repeat(")", 40), strings.Repeat("(", 40)} {
			wantFault(t, text[:f.At+1]+rest, f.E, f.At)
		}
	}
	if faults < 100 {
		t.Errorf("only %d texts have such a fault", faults)
	}
}

// R4: a polynomial is new memory. Whoever overwrites it changes no other result.
func TestResultsAreNew(t *testing.T) {
	for _, s := range valid() {
		first, _ := exprs.Parse(s)
		second, _ := exprs.Value(s)
		before := slices.Clone(first)
		for i := range first {
			first[i] = term("77", 7, 7)
		}
		if !slices.Equal(second, before) {
			t.Fatalf("results for %s share memory", brief(s))
		}
		want(t, s, before)
	}
}
