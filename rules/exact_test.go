package rules_test

import (
	"testing"

	"gusset/fracs"
	"gusset/rules"
)

// until returns the greatest degree up to 12 such that exact holds for all degrees up to it.
func until(exact func(d int) bool) int {
	d := 0
	for d <= 12 && exact(d) {
		d++
	}
	return d - 1
}

// symmetric returns the rule with the weight at the point a, b, c and at all others with the same coordinates.
func symmetric(weight, a, b, c string) rules.Rule {
	w := weight + " "
	return rule(w+w+w+w+w+w, a+" "+b+" "+c, a+" "+c+" "+b, b+" "+a+" "+c, b+" "+c+" "+a, c+" "+a+" "+b, c+" "+b+" "+a)
}

// P10.4: Exact, for rules of low degrees.
func TestExact(t *testing.T) {
	for _, x := range []struct {
		r    rules.Rule
		want int
	}{
		{rule("1", "1/3 1/3 1/3"), 1}, {rule("2", "1/3 1/3 1/3"), -1}, {rule("0", "1/3 1/3 1/3"), -1}, {rule("-1", "1/3 1/3 1/3"), -1},
		{rule("1", "1 0 0"), 0}, {rule("1", "7 -5 -1"), 0}, {rule("1/2 1/2", "1/3 0 2/3", "1/3 2/3 0"), 1}, {rule("1", "1/2 1/6 1/3"), 0}, {rule("1", "1/6 1/3 1/2"), 0}, {rule("1", "1/3 1/2 1/6"), 0},
		{rule("1/3 1/3 1/3", "1/2 1/2 0", "1/2 0 1/2", "0 1/2 1/2"), 2}, {rule("1/3 1/3 1/3", "2/3 1/6 1/6", "1/6 2/3 1/6", "1/6 1/6 2/3"), 2},
		{rule("-9/16 25/48 25/48 25/48", "1/3 1/3 1/3", "3/5 1/5 1/5", "1/5 3/5 1/5", "1/5 1/5 3/5"), 3},
		{rule("9/20 2/15 2/15 2/15 1/20 1/20 1/20", "1/3 1/3 1/3", "1/2 1/2 0", "1/2 0 1/2", "0 1/2 1/2", "1 0 0", "0 1 0", "0 0 1"), 3},
		{symmetric("1/6", "1/2", "1/3", "1/6"), 1}, {symmetric("1/6", "2", "-1", "0"), 1},
	} {
		if got := rules.Exact(x.r); got != x.want || got != until(func(d int) bool { return exact(x.r, d) }) {
			t.Errorf("%s: %d, want %d", shownRule(x.r), got, x.want)
		}
	}
}

// P10.4: Exact, for rules of all degrees up to 12, and for rules that are exact beyond it.
func TestExactSteep(t *testing.T) {
	for n := 2; n <= 12; n++ {
		r := conical(n)
		if got, want := rules.Exact(r), until(func(d int) bool { return exact(r, d) }); got != want || got < n-1 {
			t.Errorf("conical(%d): %d, want %d", n, got, want)
		}
	}
	if got := rules.Exact(conical(13)); got != 12 {
		t.Errorf("a rule that is exact up to 12: %d", got)
	}
	if r := conical(14); rules.Exact(r) != 12 || !exact(r, 13) {
		t.Errorf("a rule that is exact up to 13: %d", rules.Exact(r))
	}
}

// P10.4: the smallest change of one weight or point is noticed, and more weights of 0 are not.
func TestExactChanged(t *testing.T) {
	for n, r := range lattices() {
		for i := range r.Points {
			other, _ := rules.Lattice(n + 1)
			other.Weights[i] = fracs.Add(other.Weights[i], read("1/1000000000000000000000"))
			if got := rules.Exact(other); got != -1 {
				t.Errorf("Lattice(%d), with another weight %d: %d", n+1, i, got)
			}
			other.Weights[(i+1)%len(r.Points)] = fracs.Sub(r.Weights[(i+1)%len(r.Points)], read("1/1000000000000000000000"))
			if got := rules.Exact(other); got != 0 {
				t.Errorf("Lattice(%d), with two other weights from %d on: %d", n+1, i, got)
			}
		}
		r.Points, r.Weights = append(r.Points, [3]fracs.Frac(list("5 -3 -1"))), append(r.Weights, read("0"))
		if got := rules.Exact(r); got != n+1 {
			t.Errorf("Lattice(%d), with a weight of 0 more: %d", n+1, got)
		}
	}
}

// P10.4: Exact of any rules, and of those that are not valid.
func TestExactOthers(t *testing.T) {
	for _, r := range append(tools(), rule("1 -1 1", "1/2 1/3 1/6", "1/2 1/3 1/6", "1/3 1/3 1/3")) {
		if got, want := rules.Exact(r), until(func(d int) bool { return exact(r, d) }); got != want {
			t.Errorf("%s: %d, want %d", shownRule(r), got, want)
		}
	}
	for _, r := range invalid() {
		if got := rules.Exact(r); got != -1 {
			t.Errorf("%s: %d", shownRule(r), got)
		}
	}
}

// P10.4: ExactLine, for lines of low degrees. A degree below that does not fit ends it.
func TestExactLine(t *testing.T) {
	for _, x := range []struct {
		l    rules.Line
		want int
	}{
		{line("1/2", "1"), 1}, {line("0", "1"), 0}, {line("1", "1"), 0}, {line("1/2", "2"), -1}, {line("1/2", "0"), -1}, {line("1", "1/2"), -1}, {line("1 0", "1/3 2/3"), 0},
		{line("0 2/3", "1/4 3/4"), 2}, {line("1/3 1", "3/4 1/4"), 2}, {line("0 1", "1/2 1/2"), 1}, {line("1/4 1/2 3/4", "2/3 -1/3 2/3"), 3}, {line("-1 2", "1/2 1/2"), 1},
		{line("1 1/2 0", "1/6 2/3 1/6"), 3}, {line("0 1/2 1/2 1", "1/6 1/3 1/3 1/6"), 3}, {line("0 1/2 1 5", "1/6 2/3 1/6 0"), 3}, {line("0 1/2 1", "1/6 2/3 1/3"), -1},
	} {
		if got := rules.ExactLine(x.l); got != x.want || got != until(func(d int) bool { return exactLine(x.l, d) }) {
			t.Errorf("%s: %d, want %d", shownLine(x.l), got, x.want)
		}
	}
}

// P10.4: ExactLine, for lines of all degrees up to 12, and for lines that are exact beyond it.
func TestExactLineSteep(t *testing.T) {
	for n := 1; n <= 16; n++ {
		if got, want := rules.ExactLine(closed(n)), min(12, n+1-n%2); got != want {
			t.Errorf("closed(%d): %d, want %d", n, got, want)
		}
	}
}

// P10.4: ExactLine of any lines, and of those that are not valid.
func TestExactLineOthers(t *testing.T) {
	for _, l := range rods() {
		if got, want := rules.ExactLine(l), until(func(d int) bool { return exactLine(l, d) }); got != want {
			t.Errorf("%s: %d, want %d", shownLine(l), got, want)
		}
	}
	for _, l := range crooked() {
		if got := rules.ExactLine(l); got != -1 {
			t.Errorf("%s: %d", shownLine(l), got)
		}
	}
}
