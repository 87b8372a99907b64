package polys_test

import (
	"math/big"
	"strconv"
	"strings"
	"testing"

	"gusset/polys"
)

// P8.2: Text, with each sign at each place, coefficients 1 and -1, powers 0, 1 and more, and what is not normalized.
func TestText(t *testing.T) {
	for _, x := range []struct {
		p    polys.Poly
		want string
	}{
		{nil, "0"}, {polys.Poly{}, "0"}, {polys.Poly{term("0", 0, 0)}, "0"}, {polys.Poly{term("2", 1, 1), term("-2", 1, 1)}, "0"},
		{polys.Poly{term("1", 0, 0)}, "1"}, {polys.Poly{term("-1", 0, 0)}, "-1"}, {polys.Poly{term("2/3", 0, 0)}, "2/3"}, {polys.Poly{term("-2/3", 0, 0)}, "-2/3"},
		{polys.Poly{term("1", 1, 0)}, "x"}, {polys.Poly{term("-1", 1, 0)}, "-x"}, {polys.Poly{term("1", 0, 1)}, "y"}, {polys.Poly{term("-1", 0, 1)}, "-y"},
		{polys.Poly{term("1", 2, 0)}, "x^2"}, {polys.Poly{term("-1", 0, 2)}, "-y^2"}, {polys.Poly{term("1", 12, 0)}, "x^12"}, {polys.Poly{term("1", 0, 12)}, "y^12"},
		{polys.Poly{term("1", 1, 1)}, "x*y"}, {polys.Poly{term("-1", 1, 1)}, "-x*y"}, {polys.Poly{term("1", 10, 1)}, "x^10*y"}, {polys.Poly{term("1", 1, 11)}, "x*y^11"}, {polys.Poly{term("-3/2", 6, 6)}, "-3/2*x^6*y^6"},
		{polys.Poly{term("1/2", 1, 0)}, "1/2*x"}, {polys.Poly{term("-1/2", 1, 0)}, "-1/2*x"}, {polys.Poly{term("11", 0, 1)}, "11*y"}, {polys.Poly{term("-10", 0, 1)}, "-10*y"},
		{polys.Poly{term("1", 0, 0), term("1", 1, 0), term("1", 0, 1)}, "1 + x + y"}, {polys.Poly{term("-1", 0, 0), term("-1", 1, 0), term("-1", 0, 1)}, "-1 - x - y"},
		{polys.Poly{term("1", 0, 0), term("-1/3", 1, 0)}, "1 - 1/3*x"}, {polys.Poly{term("-4", 1, 0), term("2", 0, 3)}, "-4*x + 2*y^3"},
		{polys.Poly{term("1", 0, 2), term("1", 1, 1), term("1", 2, 0), term("-1", 0, 1), term("1", 1, 0), term("1", 0, 0)}, "1 + x - y + x^2 + x*y + y^2"},
		{polys.Poly{term("1", 3, 0), term("-5", 0, 0), term("1/6", 3, 0)}, "-5 + 7/6*x^3"},
		{polys.Poly{term("-340282366920938463463374607431768211455/2", 2, 1)}, "-340282366920938463463374607431768211455/2*x^2*y"},
	} {
		if got := polys.Text(x.p); got != x.want {
			t.Errorf("Text(%s): %q, want %q", shown(x.p), got, x.want)
		}
	}
	for _, p := range invalid() {
		if got := polys.Text(p); got != "0" {
			t.Errorf("Text(%s): %q", shown(p), got)
		}
	}
}

// spelled returns the text of c x^i y^j, by the definition, as it stands behind others.
func spelled(c *big.Rat, i, j int) string {
	var factors []string
	if abs := new(big.Rat).Abs(c); abs.Cmp(rat("1")) != 0 || i+j == 0 {
		factors = append(factors, abs.RatString())
	}
	for k, n := range []int{i, j} {
		if n == 1 {
			factors = append(factors, "xy"[k:k+1])
		} else if n > 1 {
			factors = append(factors, "xy"[k:k+1]+"^"+strconv.Itoa(n))
		}
	}
	sign := " + "
	if c.Sign() < 0 {
		sign = " - "
	}
	return sign + strings.Join(factors, "*")
}

// P8.2: Text of all arguments.
func TestTextOfArguments(t *testing.T) {
	for _, p := range arguments() {
		m := modelOf(p)
		want := ""
		for d := range 13 {
			for j := range d + 1 {
				if c := m[[2]int{d - j, j}]; c != nil {
					want += spelled(c, d-j, j)
				}
			}
		}
		switch {
		case want == "":
			want = "0"
		case strings.HasPrefix(want, " - "):
			want = "-" + want[3:]
		default:
			want = want[3:]
		}
		if got := polys.Text(p); got != want {
			t.Fatalf("Text(%s): %q, want %q", shown(p), got, want)
		}
	}
}
