package rules_test

import (
	"testing"

	"gusset/api"
	"gusset/rules"
)

// The chapter's table of examples.
func TestExamples(t *testing.T) {
	one, e := rules.Lattice(1)
	if got := shownRule(one); e != api.OK || got != "(1 0 0) (0 1 0) (0 0 1) with 1/3 1/3 1/3" {
		t.Errorf("Lattice(1): %s, error %d", got, e)
	}
	two, e := rules.Lattice(2)
	if got := text(two.Weights); e != api.OK || got != "0 1/3 1/3 0 1/3 0" {
		t.Errorf("Lattice(2): %s, error %d", got, e)
	}
	if _, e := rules.Lattice(0); e != api.ErrArg {
		t.Errorf("Lattice(0): error %d", e)
	}
	if _, e := rules.Lattice(7); e != api.ErrDegree {
		t.Errorf("Lattice(7): error %d", e)
	}
	simpson, e := rules.Cotes(2)
	if got := text(simpson.Weights); e != api.OK || got != "1/6 2/3 1/6" {
		t.Errorf("Cotes(2): %s, error %d", got, e)
	}
	if _, e := rules.Cotes(9); e != api.ErrDegree {
		t.Errorf("Cotes(9): error %d", e)
	}
	for _, x := range []struct {
		what      string
		got, want int
	}{
		{"Exact of Lattice(2)", rules.Exact(two), 2},
		{"Exact of the centroid", rules.Exact(rule("1", "1/3 1/3 1/3")), 1},
		{"Exact of a rule without points", rules.Exact(rules.Rule{}), -1},
		{"ExactLine of Cotes(2)", rules.ExactLine(simpson), 3},
	} {
		if x.got != x.want {
			t.Errorf("%s: %d, want %d", x.what, x.got, x.want)
		}
	}
}

// P10.1: valid rules, whatever their weights are and wherever their points lie.
func TestCheckValid(t *testing.T) {
	list := append(lattices(), rules.Rule{}, rule("1", "1/3 1/3 1/3"), rule("-7/2", "3 -1 -1"), rule("0 0", "1 0 0", "1 0 0"),
		rule("5", "18446744073709551617/3 -18446744073709551617/3 1"), rule("1 2 3", "1/2 1/3 1/6", "-1 1 1", "0 0 1"))
	s := &series{11}
	for n := range 20 {
		list = append(list, s.rule(n))
	}
	for _, r := range list {
		if e := rules.Check(r); e != api.OK {
			t.Errorf("%s: error %d", shownRule(r), e)
		}
	}
}

// invalid returns invalid rules.
func invalid() []rules.Rule {
	list := []rules.Rule{
		rule("1"), rule("0 0 0"), rule("", "1 0 0"), rule("1", "1 0 0", "0 1 0"), rule("1 2 3", "1 0 0", "0 1 0"), rule("1", "0 0 0"), rule("1", "1/3 1/3 0"),
		rule("1", "1 1 1"), rule("1", "-1 0 0"), rule("0", "1 0 1"), rule("1", "2 0 0"), rule("1/3 1/3 1/3", "1 0 0", "0 1 0", "0 0 0"),
		rule("1/3 1/3 1/3", "1 0 0", "1 1 0", "0 0 1"), rule("1/3 1/3 1/3", "0 0 2", "0 1 0", "0 0 1"), rule("1 0", "1/3 1/3 1/3", "1/3 1/3 2/3"),
		rule("1", "1/3 1/3 18446744073709551617/55340232221128654848"),
	}
	for place := range 3 {
		r := rule("1/3 1/3 1/3", "1 0 0", "0 1 0", "0 0 1")
		r.Points[place][(place+1)%3] = read("1/1000000")
		list = append(list, r)
	}
	return list
}

// P10.1: too few or too many weights, and coordinates whose sum is not 1.
func TestCheckInvalid(t *testing.T) {
	for _, r := range invalid() {
		if e := rules.Check(r); e != api.ErrArg {
			t.Errorf("%s: error %d", shownRule(r), e)
		}
	}
}
