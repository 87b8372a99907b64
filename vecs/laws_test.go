package vecs_test

import (
	"math/big"
	"testing"

	"gusset/api"
	"gusset/fracs"
	"gusset/vecs"
)

// equal fails unless a and b are equal.
func equal(t *testing.T, law string, a, b vecs.Vec) {
	t.Helper()
	if !vecs.Same(a, b) {
		t.Fatalf("%s: %s and %s", law, vecs.Text(a), vecs.Text(b))
	}
}

// P12.5: Add is commutative and associative, and Sub adds -1 times its second argument.
func TestAddLaws(t *testing.T) {
	v := good(t)
	for _, n := range lengths() {
		for _, a := range family(n) {
			for _, b := range family(n) {
				equal(t, "commutative", v(vecs.Add(a, b)), v(vecs.Add(b, a)))
				equal(t, "Sub", v(vecs.Sub(a, b)), v(vecs.Add(a, v(vecs.Scale(fracs.Int(-1), b)))))
				for _, c := range family(n) {
					left, right := v(vecs.Add(v(vecs.Add(a, b)), c)), v(vecs.Add(a, v(vecs.Add(b, c))))
					equal(t, "associative", left, right)
					equal(t, "Sum", left, v(vecs.Sum(a, b, c)))
				}
			}
		}
	}
}

// P12.5: Scale distributes over sums of numbers and of vectors, and 0 times a vector is the zero vector.
func TestScaleLaws(t *testing.T) {
	v := good(t)
	for _, n := range lengths() {
		zero := v(vecs.Zero(n))
		for _, a := range family(n) {
			equal(t, "0 times a vector", v(vecs.Scale(fracs.Int(0), a)), zero)
			equal(t, "1 times a vector", v(vecs.Scale(fracs.Int(1), a)), a)
			for _, c := range numbers() {
				for _, d := range numbers() {
					equal(t, "a sum of numbers", v(vecs.Scale(fracs.Add(c, d), a)), v(vecs.Axpy(c, a, v(vecs.Scale(d, a)))))
				}
				for _, b := range family(n) {
					sum := v(vecs.Add(v(vecs.Scale(c, a)), v(vecs.Scale(c, b))))
					equal(t, "a sum of vectors", v(vecs.Scale(c, v(vecs.Add(a, b)))), sum)
				}
			}
		}
	}
}

// P12.5: the dot product is bilinear and symmetric.
func TestDotLaws(t *testing.T) {
	v, d := good(t), number(t)
	for _, n := range lengths() {
		for _, a := range family(n) {
			for _, b := range family(n) {
				ab := d(vecs.Dot(a, b))
				if ab != d(vecs.Dot(b, a)) {
					t.Fatalf("Dot of %s and %s is not symmetric", vecs.Text(a), vecs.Text(b))
				}
				for _, c := range numbers() {
					for _, x := range family(n) {
						want := fracs.Add(fracs.Mul(c, ab), d(vecs.Dot(x, b)))
						mix := v(vecs.Axpy(c, a, x))
						if d(vecs.Dot(mix, b)) != want || d(vecs.Dot(b, mix)) != want {
							t.Fatalf("Dot is not linear for %s, %s and %s", vecs.Text(a), vecs.Text(x), vecs.Text(b))
						}
					}
				}
			}
		}
	}
}

// P12.6: the inequality of Cauchy and Schwarz, and when it is an equality. Dot(a, a) is positive unless a is 0.
func TestCauchySchwarz(t *testing.T) {
	d, seen := number(t), map[bool]int{}
	for _, n := range lengths() {
		for _, a := range family(n) {
			aa := d(vecs.Dot(a, a))
			if isZero(a) && fracs.Sign(aa) != 0 || !isZero(a) && fracs.Sign(aa) != 1 {
				t.Fatalf("Dot of %s with itself is %s", vecs.Text(a), fracs.Text(aa))
			}
			for _, b := range family(n) {
				order := fracs.Cmp(fracs.Square(d(vecs.Dot(a, b))), fracs.Mul(aa, d(vecs.Dot(b, b))))
				if order > 0 || (order == 0) != parallel(a, b) {
					t.Fatalf("the square of Dot of %s and %s compares as %d", vecs.Text(a), vecs.Text(b), order)
				}
				seen[order == 0]++
			}
		}
	}
	if seen[true] < 20 || seen[false] < 20 {
		t.Errorf("%d pairs were parallel, %d were not", seen[true], seen[false])
	}
}

// P12.7: the maximum norm of sums, multiples and 0, and its bound for the dot product.
func TestNormLaws(t *testing.T) {
	v, d := good(t), number(t)
	for _, n := range lengths() {
		for _, a := range family(n) {
			norm := vecs.Max(a)
			if (norm == fracs.Int(0)) != isZero(a) || fracs.Sign(norm) < 0 {
				t.Fatalf("the norm of %s is %s", vecs.Text(a), fracs.Text(norm))
			}
			for _, c := range numbers() {
				if vecs.Max(v(vecs.Scale(c, a))) != fracs.Mul(fracs.Abs(c), norm) {
					t.Fatalf("the norm of %s times %s is another", fracs.Text(c), vecs.Text(a))
				}
			}
			for _, b := range family(n) {
				if fracs.Cmp(vecs.Max(v(vecs.Add(a, b))), fracs.Add(norm, vecs.Max(b))) > 0 {
					t.Fatalf("the norm of %s + %s is too great", vecs.Text(a), vecs.Text(b))
				}
				bound := fracs.Mul(fracs.Int(int64(n)), fracs.Mul(norm, vecs.Max(b)))
				if fracs.Cmp(fracs.Abs(d(vecs.Dot(a, b))), bound) > 0 {
					t.Fatalf("Dot of %s and %s is too great", vecs.Text(a), vecs.Text(b))
				}
			}
		}
	}
}

// P12.8: a vector is the Mix of its elements and the unit vectors, which pick the elements by Dot.
func TestUnitLaws(t *testing.T) {
	v, d := good(t), number(t)
	for _, n := range lengths() {
		units, places := make([]vecs.Vec, n), make([]int, n)
		for i := range units {
			units[i], places[i] = v(vecs.Unit(n, i)), i
		}
		for _, a := range family(n) {
			equal(t, "Mix", v(vecs.Mix(a, units)), a)
			equal(t, "Part", v(vecs.Part(a, places)), a)
			for i := range a {
				if d(vecs.Dot(a, units[i])) != a[i] || d(vecs.Dot(units[i], a)) != a[i] {
					t.Fatalf("Dot of %s with the unit vector %d", vecs.Text(a), i)
				}
			}
		}
	}
}

// P12.8: a vector of the greatest length.
func TestLongUnits(t *testing.T) {
	v := good(t)
	a, units := long(api.MaxDim), make([]vecs.Vec, api.MaxDim)
	for i := range units {
		units[i] = v(vecs.Unit(api.MaxDim, i))
	}
	a[api.MaxDim-1] = frac(big.NewRat(-5, 7))
	equal(t, "Mix", v(vecs.Mix(a, units)), a)
}
