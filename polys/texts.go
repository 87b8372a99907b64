package polys

import (
	"strconv"
	"strings"

	"gusset/fracs"
)

// Text returns the text of p.
func Text(p Poly) string {
	p = normal(p)
	if len(p) == 0 {
		return "0"
	}
	var out strings.Builder
	for i, t := range p {
		out.WriteString(sign(fracs.Sign(t.C) < 0, i == 0))
		out.WriteString(strings.Join(factors(t), "*"))
	}
	return out.String()
}

// sign returns what precedes a term.
func sign(negative, first bool) string {
	switch {
	case negative && first:
		return "-"
	case negative:
		return " - "
	case first:
		return ""
	}
	return " + "
}

// factors returns the texts of the factors of t without its sign.
func factors(t Term) []string {
	var l []string
	if c := fracs.Abs(t.C); c != fracs.Int(1) || t.I+t.J == 0 {
		l = append(l, fracs.Text(c))
	}
	for _, f := range []struct {
		name string
		n    int
	}{{"x", t.I}, {"y", t.J}} {
		if f.n > 0 {
			l = append(l, power(f.name, f.n))
		}
	}
	return l
}

// power returns the text of name to the power n, which is greater than 0.
func power(name string, n int) string {
	if n == 1 {
		return name
	}
	return name + "^" + strconv.Itoa(n)
}
