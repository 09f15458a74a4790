package pair

import (
	"math"
	"math/big"
	"slices"
	"testing"
)

// counts are some about nought, and about the ends.
func counts() []int {
	return []int{0, 1, -1, 2, -2, 3, -7, 1 << 20, -1 << 20, 1<<20 + 1, 1 << 39, -1 << 39, 1<<39 + 1, 1<<40 - 1, 1 - 1<<40, 1 << 40, -1 << 40}
}

// noCounts are ints beyond the ends.
func noCounts() []int {
	return []int{1<<40 + 1, -1<<40 - 1, 1 << 41, -1 << 41, 1<<53 + 1, -1 << 62, math.MaxInt, math.MinInt}
}

// noParts are what no part of a whole pair is.
func noParts() []float64 {
	return []float64{0.5, -0.5, 0.1, 1.25, -3.75, 1e-300, -1e-300, math.SmallestNonzeroFloat64, 1<<39 + 0.5,
		1<<40 - 0.5, 0.5 - 1<<40, 1<<40 + 0.25, -1<<40 - 0.25, 1<<40 + 1, -1<<40 - 1, 1 << 41, 1 << 62, 1 << 63, -1 << 63, 1 << 64, 1e300,
		math.MaxFloat64, -math.MaxFloat64, math.Inf(1), math.Inf(-1), math.NaN()}
}

// notWhole are pairs of which a part, or both, is no count.
func notWhole() []complex128 {
	var out []complex128
	for _, x := range noParts() {
		out = append(out, complex(x, 0), complex(0, x), complex(x, 3), complex(-3, x), complex(x, x))
	}
	return out
}

// signedNoughts are 0 as it may be handed in.
func signedNoughts() []complex128 {
	minus := math.Copysign(0, -1)
	return []complex128{complex(0, 0), complex(minus, 0), complex(0, minus), complex(minus, minus)}
}

// same tells also the noughts' signs apart.
func same(a, b complex128) bool {
	return math.Float64bits(real(a)) == math.Float64bits(real(b)) && math.Float64bits(imag(a)) == math.Float64bits(imag(b))
}

// of is the pair of two numbers, made beside the package.
func of(a, b int) complex128 {
	return complex(float64(a), float64(b))
}

// isCount tells whether a number without bounds is a count.
func isCount(x *big.Int) bool {
	return x.CmpAbs(big.NewInt(1<<40)) <= 0
}

func TestWhole(t *testing.T) { // P4.1
	if Most != 1099511627776 {
		t.Error(Most)
	}
	for _, a := range counts() {
		for _, b := range counts() {
			if !Whole(of(a, b)) {
				t.Error(a, b)
			}
		}
	}
	for _, c := range signedNoughts() {
		if !Whole(c) {
			t.Error(c)
		}
	}
	for _, c := range notWhole() {
		if Whole(c) {
			t.Error(c)
		}
	}
}

func TestOfFirstSecond(t *testing.T) { // P4.1
	for _, a := range counts() {
		for _, b := range counts() {
			c := Of(a, b)
			if !same(c, of(a, b)) || First(c) != a || Second(c) != b {
				t.Error(a, b, c, First(c), Second(c))
			}
		}
		for _, n := range noCounts() {
			if !same(Of(a, n), 0) || !same(Of(n, a), 0) || !same(Of(n, n), 0) {
				t.Error(a, n, Of(a, n), Of(n, a))
			}
		}
	}
	for _, c := range signedNoughts() {
		if First(c) != 0 || Second(c) != 0 {
			t.Error(c)
		}
	}
}

func TestNotWhole(t *testing.T) { // P4.1, P4.2, P1
	for _, c := range notWhole() {
		if First(c) != 0 || Second(c) != 0 || Total(c) != 0 {
			t.Error("ints", c, First(c), Second(c), Total(c))
		}
		if !same(Turn(c), 0) || !same(Mirror(c), 0) {
			t.Error("turned", c, Turn(c), Mirror(c))
		}
		for _, k := range []int{0, 1, -1, 2, 4, 1 << 40, math.MaxInt} {
			if !same(Times(c, k), 0) {
				t.Error("Times", c, k, Times(c, k))
			}
		}
		for _, o := range []complex128{0, of(3, 4), of(-3, -4), of(-1<<40, -1<<40), c} {
			if !same(Least(c, o), 0) || !same(Least(o, c), 0) {
				t.Error("Least", c, o, Least(c, o), Least(o, c))
			}
			if !same(Sum(c), 0) || !same(Sum(c, o), 0) || !same(Sum(o, c), 0) || !same(Sum(0, o, c, 1), 0) {
				t.Error("Sum", c, o)
			}
		}
		if !same(Sum(c, -c, 5), 0) || !same(Sum(5, c, -c), 0) {
			t.Error("Sum that is made up again", c)
		}
	}
}

func TestSum(t *testing.T) { // P4.1
	const top = 1 << 40
	for _, c := range []struct {
		l    []complex128
		want complex128
	}{
		{nil, 0},
		{[]complex128{}, 0},
		{[]complex128{of(7, -9)}, of(7, -9)},
		{[]complex128{of(3, 4), 1}, of(4, 4)},
		{[]complex128{of(1, 2), of(30, 40), of(-500, 600)}, of(-469, 642)},
		{[]complex128{of(5, -5), of(-5, 5)}, 0},
		{[]complex128{of(top, -top)}, of(top, -top)},
		{[]complex128{of(top-1, 0), of(1, 0)}, of(top, 0)},
		{[]complex128{of(top, 0), of(1, 0)}, 0},
		{[]complex128{of(0, -top), of(0, -1)}, 0},
		{[]complex128{of(top, 8), of(1, 0), of(-1, 0)}, 0}, // a beginning is too great
		{[]complex128{of(8, -top), of(0, -1), of(0, 1)}, 0},
		{[]complex128{of(top, 8), of(-1, 0), of(1, 0)}, of(top, 8)},
		{[]complex128{of(top, top), of(top, top), of(-top, -top)}, 0},
		{[]complex128{0.5, 0.5}, 0},
		{[]complex128{0.5i, 2, 0.5i}, 0},
	} {
		kept := slices.Clone(c.l)
		if got := Sum(c.l...); !same(got, c.want) {
			t.Error(c.l, got, c.want)
		}
		if !slices.Equal(kept, c.l) {
			t.Error("changed", c.l, kept)
		}
	}
	for _, a := range counts() {
		for _, b := range counts() {
			want := of(a+b, b-a)
			if max(a+b, -a-b, b-a, a-b) > top {
				want = 0
			}
			if got := Sum(of(a, b), of(b, -a)); !same(got, want) {
				t.Error(a, b, got, want)
			}
		}
	}
}

func TestTimes(t *testing.T) { // P4.1
	for _, a := range counts() {
		for _, b := range counts() {
			for _, k := range counts() {
				first := new(big.Int).Mul(big.NewInt(int64(a)), big.NewInt(int64(k)))
				second := new(big.Int).Mul(big.NewInt(int64(b)), big.NewInt(int64(k)))
				want := complex128(0)
				if isCount(first) && isCount(second) {
					want = of(int(first.Int64()), int(second.Int64()))
				}
				if got := Times(of(a, b), k); !same(got, want) {
					t.Error(a, b, k, got, want)
				}
			}
			for _, k := range noCounts() {
				if got := Times(of(a, b), k); !same(got, 0) {
					t.Error("no count", a, b, k, got)
				}
			}
		}
	}
}

func TestTurned(t *testing.T) { // P4.2
	for _, a := range counts() {
		for _, b := range counts() {
			c := of(a, b)
			if got := Turn(c); !same(got, of(-b, a)) {
				t.Error("Turn", c, got)
			}
			if got := Mirror(c); !same(got, of(b, a)) {
				t.Error("Mirror", c, got)
			}
			if got := Total(c); got != a+b {
				t.Error("Total", c, got)
			}
			for _, d := range counts() {
				if got := Least(c, of(d, a)); !same(got, of(min(a, d), min(b, a))) {
					t.Error("Least", c, d, got)
				}
			}
		}
	}
	if Total(of(1<<40, 1<<40)) != 1<<41 || Total(of(-1<<40, -1<<40)) != -1<<41 {
		t.Error("a Total is no count, but a number")
	}
}

func TestNoughtsHaveNoSign(t *testing.T) { // P4.2
	for _, c := range signedNoughts() {
		for _, o := range signedNoughts() {
			for i, got := range []complex128{Sum(c), Sum(c, o), Times(c, 3), Times(c, -3), Turn(c), Mirror(c), Least(c, o)} {
				if !same(got, 0) {
					t.Error(i, c, o, got)
				}
			}
		}
		if got := Least(c, of(5, 6)); !same(got, 0) {
			t.Error("Least", c, got)
		}
	}
	for _, c := range []complex128{of(5, 0), of(0, 5), of(-5, 0), of(0, -5)} {
		for _, got := range []complex128{Times(c, -1), Times(c, 0), Turn(c), Mirror(c), Sum(c, -c)} {
			if real(got) == 0 && math.Signbit(real(got)) || imag(got) == 0 && math.Signbit(imag(got)) {
				t.Error(c, got)
			}
		}
	}
}

// orders tells all orders of a list.
func orders(l []complex128, each func([]complex128)) {
	if len(l) == 0 {
		each(nil)
	}
	for i := range l {
		orders(slices.Delete(slices.Clone(l), i, i+1), func(rest []complex128) {
			each(append([]complex128{l[i]}, rest...))
		})
	}
}

func TestAnyOrder(t *testing.T) { // P4.3
	for _, l := range [][]complex128{
		{1, 2i, of(-3, 5), of(100, -100), of(7, 7)},
		{of(1<<39, 1), of(1<<38, 2), of(1<<38, 3), of(-1<<39, -1<<40)},
		{of(1<<40-3, 0), 1, 1, 1, of(0, 1-1<<40)},
	} {
		want := Sum(l...)
		if want == 0 {
			t.Fatal("no good list", l)
		}
		orders(l, func(other []complex128) {
			if got := Sum(other...); !same(got, want) {
				t.Error(other, got, want)
			}
		})
	}
}

func TestAsItWas(t *testing.T) { // P4.3
	for _, a := range counts() {
		for _, b := range counts() {
			c := of(a, b)
			if got := Turn(Turn(Turn(Turn(c)))); !same(got, c) {
				t.Error("turned", c, got)
			}
			if got := Mirror(Mirror(c)); !same(got, c) {
				t.Error("mirrored", c, got)
			}
		}
	}
}

func TestExample(t *testing.T) {
	c := Sum(3+4i, 1)
	if !same(c, 4+4i) || Total(c) != 8 || !same(Turn(c), -4+4i) {
		t.Error(c, Total(c), Turn(c))
	}
}
