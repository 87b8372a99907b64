package integrals_test

import (
	"testing"

	"gusset/fracs"
	"gusset/integrals"
)

// The chapter's table of examples.
func TestExamples(t *testing.T) {
	o, e, n := at("0", "0"), at("1", "0"), at("0", "1")
	for _, x := range []struct {
		what string
		got  fracs.Frac
		want string
	}{
		{"Moment(0, 0, 0)", integrals.Moment(0, 0, 0), "1"},
		{"Moment(1, 0, 0)", integrals.Moment(1, 0, 0), "1/3"},
		{"Moment(1, 1, 0)", integrals.Moment(1, 1, 0), "1/12"},
		{"Moment(2, 0, 0)", integrals.Moment(2, 0, 0), "1/6"},
		{"Moment(-1, 0, 0)", integrals.Moment(-1, 0, 0), "0"},
		{"Tri of 1", integrals.Tri(power(0, 0), o, e, n), "1/2"},
		{"Tri of x*y", integrals.Tri(power(1, 1), o, e, n), "1/24"},
		{"Tri of x^2", integrals.Tri(power(2, 0), o, e, n), "1/12"},
		{"Tri of x, reversed", integrals.Tri(power(1, 0), o, n, e), "-1/6"},
		{"Polygon of x", integrals.Polygon(power(1, 0), o, at("2", "0"), at("2", "1"), n), "2"},
		{"Seg of x^2", integrals.Seg(power(2, 0), o, at("2", "1")), "4/3"},
		{"Flow of (x, 0)", integrals.Flow(power(1, 0), nil, e, at("1", "1")), "1"},
	} {
		if got := fracs.Text(x.got); got != x.want {
			t.Errorf("%s: %s, want %s", x.what, got, x.want)
		}
	}
}
