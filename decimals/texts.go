package decimals

import (
	"strings"

	"gusset/api"
	"gusset/fracs"
	"gusset/ints"
	"gusset/nats"
)

const (
	minus = "-"
	point = "."
)

// Text returns the decimal notation of a rounded number.
func Text(a fracs.Frac, places, way int) (string, api.Errno) {
	n, e := rounded(a, places, way)
	if e != api.OK {
		return "", e
	}
	return notation(n, places), api.OK
}

// notation returns the decimal notation of n/10^places with that many places.
func notation(n ints.Int, places int) string {
	var out strings.Builder
	write := func(part nats.Nat, width int) {
		digits := nats.Text(part)
		for range width - len(digits) {
			out.WriteByte('0')
		}
		out.WriteString(digits)
	}
	before, after, _ := nats.Div(ints.Abs(n), tens(places))
	if ints.Sign(n) < 0 {
		out.WriteString(minus)
	}
	write(before, 1)
	if places > 0 {
		out.WriteString(point)
		write(after, places)
	}
	return out.String()
}

// Parse returns the value of a decimal number.
func Parse(s string) (fracs.Frac, api.Errno) {
	if len(s) > api.MaxDigits {
		return fracs.Frac{}, api.ErrLimit
	}
	digits, negative := strings.CutPrefix(s, minus)
	before, after, pointed := strings.Cut(digits, point)
	if pointed && after == "" {
		return fracs.Frac{}, api.ErrForm
	}
	high, e := nats.Parse(before)
	if e != api.OK {
		return fracs.Frac{}, e
	}
	low, e := behindPoint(after)
	if e != api.OK {
		return fracs.Frac{}, e
	}
	unit := tens(len(after))
	n := nats.Add(nats.Mul(high, unit), low)
	if negative && n == nats.Of(0) {
		return fracs.Frac{}, api.ErrForm
	}
	return fracs.From(ints.From(negative, n), unit)
}

// behindPoint returns the number that the digits s spell, which may begin with zeros. Without digits it is 0.
func behindPoint(s string) (nats.Nat, api.Errno) {
	n, e := nats.Parse("1" + s) // behind a 1 no zero is a leading one
	if e != api.OK {
		return nats.Nat{}, e
	}
	low, _ := nats.Sub(n, tens(len(s)))
	return low, api.OK
}
