package fracs

import (
	"strings"

	"gusset/api"
	"gusset/ints"
	"gusset/nats"
)

const slash = "/"

// Text returns the text of a.
func Text(a Frac) string {
	if Whole(a) {
		return ints.Text(a.num)
	}
	return ints.Text(a.num) + slash + nats.Text(a.den)
}

// Parse returns the fraction with the text s.
func Parse(s string) (Frac, api.Errno) {
	before, after, divided := strings.Cut(s, slash)
	n, e := ints.Parse(before)
	if e != api.OK {
		return Frac{}, e
	}
	if !divided {
		return lowest(n, nats.Of(1)), api.OK
	}
	d, e := nats.Parse(after)
	if e != api.OK {
		return Frac{}, e
	}
	return From(n, d)
}
