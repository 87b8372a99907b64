package recons_test

import (
	"math/big"
	"slices"
	"testing"

	"gusset/api"
	"gusset/ints"
	"gusset/nats"
	"gusset/recons"
)

// wantRest fails unless Chinese returned the congruence and the error that it had to.
func wantRest(t *testing.T, got recons.Rest, e api.Errno, want recons.Rest, code api.Errno) {
	t.Helper()
	if got != want || e != code {
		t.Fatalf("%s modulo %s, error %d; want %s modulo %s, error %d",
			ints.Text(got.R), nats.Text(got.M), e, ints.Text(want.R), nats.Text(want.M), code)
	}
}

// searched returns the least number from 0 on that satisfies the congruences, and the least common multiple of their
// moduli, by the definition.
func searched(l [][2]int64) (recons.Rest, api.Errno) {
	multiple := int64(1)
	for _, x := range l {
		multiple = multiple / common(whole(multiple), whole(x[1])).Int64() * x[1]
	}
next:
	for r := range multiple {
		for _, x := range l {
			if (r-x[0])%x[1] != 0 {
				continue next
			}
		}
		return small(r, multiple), api.OK
	}
	return recons.Rest{}, api.ErrSingular
}

// wantChinese fails unless Chinese returns what a search finds.
func wantChinese(t *testing.T, l ...[2]int64) {
	t.Helper()
	var rests []recons.Rest
	for _, x := range l {
		rests = append(rests, small(x[0], x[1]))
	}
	got, e := recons.Chinese(rests...)
	want, code := searched(l)
	if got != want || e != code {
		t.Fatalf("Chinese(%v): %s modulo %s, error %d; want %s modulo %s, error %d",
			l, ints.Text(got.R), nats.Text(got.M), e, ints.Text(want.R), nats.Text(want.M), code)
	}
}

// P7.2: one congruence, and all pairs of them for small moduli. R need not lie between 0 and M - 1.
func TestChineseOfPairs(t *testing.T) {
	for m := int64(1); m <= 14; m++ {
		for r := int64(-20); r <= 20; r++ {
			wantChinese(t, [2]int64{r, m})
			for n := int64(1); n <= 14; n++ {
				for other := int64(-1); other <= n; other++ {
					wantChinese(t, [2]int64{r, m}, [2]int64{other, n})
				}
			}
		}
	}
}

// P7.2: three and more congruences, most of whose moduli have common divisors.
func TestChineseOfMore(t *testing.T) {
	moduli := []int64{1, 2, 3, 4, 5, 6, 8, 9, 10, 12, 15}
	s := &series{2038}
	for i := range 3000 {
		x := int64(s.below(1000)) - 500
		var l [][2]int64
		for range 3 + i%3 {
			m := moduli[s.below(len(moduli))]
			l = append(l, [2]int64{x + m*int64(s.below(7)-3), m})
		}
		wantChinese(t, l...)
		at := s.below(len(l))
		l[at][0] += int64(s.below(3)) // after which perhaps no integer satisfies all
		wantChinese(t, l...)
	}
}

// P7.2: great moduli, with and without common divisors.
func TestChineseOfGreatNumbers(t *testing.T) {
	s := &series{2039}
	for i := range 200 {
		x, multiple, factor := s.integer(10), whole(1), s.size(1+i%2)
		var l []recons.Rest
		var moduli []*big.Int
		for range 2 + i%4 {
			m := s.size(1 + i%3)
			if s.below(2) == 0 {
				m = times(m, factor)
			}
			moduli = append(moduli, m)
			l = append(l, rest(plus(x, times(m, s.integer(1+i%2))), m))
			multiple = times(multiple, new(big.Int).Div(m, common(multiple, m)))
		}
		got, e := recons.Chinese(l...)
		wantRest(t, got, e, rest(remainder(x, multiple), multiple), api.OK)
		if coprime(moduli[0], moduli[1]) {
			continue
		}
		l[0].R = ints.Add(l[0].R, ints.Of(1))
		got, e = recons.Chinese(l...)
		wantRest(t, got, e, recons.Rest{}, api.ErrSingular)
	}
}

// P7.2: the chapter's examples, and the order of the errors: 0 anywhere comes before a contradiction.
func TestChineseExamples(t *testing.T) {
	for _, x := range []struct {
		l    []recons.Rest
		want recons.Rest
		e    api.Errno
	}{
		{[]recons.Rest{small(2, 3), small(3, 5)}, small(8, 15), api.OK},
		{[]recons.Rest{small(1, 4), small(3, 6)}, small(9, 12), api.OK},
		{[]recons.Rest{small(1, 4), small(2, 6)}, recons.Rest{}, api.ErrSingular},
		{nil, small(0, 1), api.OK},
		{[]recons.Rest{}, small(0, 1), api.OK},
		{[]recons.Rest{small(-7, 1)}, small(0, 1), api.OK},
		{[]recons.Rest{small(-1, 7)}, small(6, 7), api.OK},
		{[]recons.Rest{small(7, 7)}, small(0, 7), api.OK},
		{[]recons.Rest{small(3, 8), small(3, 8), small(11, 8), small(-5, 4)}, small(3, 8), api.OK},
		{[]recons.Rest{small(1, 2), small(1, 3), small(0, 2)}, recons.Rest{}, api.ErrSingular},
		{[]recons.Rest{{}}, recons.Rest{}, api.ErrZero},
		{[]recons.Rest{small(5, 0)}, recons.Rest{}, api.ErrZero},
		{[]recons.Rest{small(5, 0), small(5, 0)}, recons.Rest{}, api.ErrZero},
		{[]recons.Rest{small(2, 3), small(5, 0)}, recons.Rest{}, api.ErrZero},
		{[]recons.Rest{small(0, 0), small(2, 3), small(1, 3)}, recons.Rest{}, api.ErrZero},
		{[]recons.Rest{small(2, 3), small(1, 3), small(0, 0)}, recons.Rest{}, api.ErrZero},
		{[]recons.Rest{small(2, 3), small(0, 0), small(1, 3)}, recons.Rest{}, api.ErrZero},
	} {
		got, e := recons.Chinese(x.l...)
		wantRest(t, got, e, x.want, x.e)
	}
}

// R1: the arguments stay as they are.
func TestChineseKeepsItsArguments(t *testing.T) {
	l := []recons.Rest{small(-1, 5), small(30, 4), small(2, 9), small(2, 3)}
	before := slices.Clone(l)
	if got, e := recons.Chinese(l...); e != api.OK || got != small(74, 180) {
		t.Errorf("%s modulo %s, error %d", ints.Text(got.R), nats.Text(got.M), e)
	}
	if !slices.Equal(l, before) {
		t.Error("the arguments have changed")
	}
}
