package wide

import (
	"math"
	"math/big"
	"slices"
	"testing"

	"sakia/api"
)

// The tests reckon every answer anew with numbers that don't go round (math/big).

func number(x uint64) *big.Int { return new(big.Int).SetUint64(x) }

func power(n int) *big.Int { return new(big.Int).Lsh(big.NewInt(1), uint(n)) }

func cutBig(width int, x *big.Int) uint64 {
	return new(big.Int).Mod(x, power(width)).Uint64()
}

func sumBig(width int, a uint64, n int) uint64 {
	return cutBig(width, new(big.Int).Add(number(a), big.NewInt(int64(n))))
}

func leadBig(width int, a, b uint64) int {
	d := new(big.Int).Sub(number(a), number(b))
	d.Mod(d, power(width))
	if d.Cmp(power(width-1)) >= 0 {
		d.Sub(d, power(width))
	}
	return int(d.Int64())
}

func withinBig(width int, x, from uint64, n int) bool {
	d := new(big.Int).Sub(number(x), number(from))
	d.Mod(d, power(width))
	return d.Cmp(big.NewInt(int64(n))) < 0
}

// edges are counters of a width about nought, the quarters, and the places where it goes round.
func edges(width int) []uint64 {
	var out []uint64
	for _, at := range []uint64{0, 1 << (width - 2), 1 << (width - 1), 3 << (width - 2), 0x9e3779b97f4a7c15} {
		for d := range 5 {
			x := at + uint64(d) - 2
			if width == 32 {
				x &= math.MaxUint32
			}
			out = append(out, x)
		}
	}
	return out
}

// shifts are numbers to add, about all places where one of the widths turns.
func shifts() []int {
	out := []int{math.MinInt, math.MinInt + 1, math.MaxInt - 1, math.MaxInt, 987654321987654321, -123456789123456789}
	for _, at := range []int{0, 1 << 30, 1 << 31, 1 << 32, 1 << 62} {
		for d := -2; d <= 2; d++ {
			out = append(out, at+d, -at+d)
		}
	}
	return out
}

func TestBitsOfUp(t *testing.T) { // P1.1
	if n := Bits[uint32](); n != 32 {
		t.Error(n)
	}
	if n := Bits[uint64](); n != 64 {
		t.Error(n)
	}
	for _, x := range edges(64) {
		if got := Of[uint32](x); uint64(got) != x%(1<<32) {
			t.Error("Of 32", x, got)
		}
		if got := Of[uint64](x); got != x {
			t.Error("Of 64", x, got)
		}
		if got := Up(x); got != x {
			t.Error("Up 64", x, got)
		}
		if got := Up(uint32(x)); got != x%(1<<32) {
			t.Error("Up 32", x, got)
		}
	}
}

func testReckoning[W api.Word](t *testing.T, width int) {
	for _, a := range edges(width) {
		for _, n := range shifts() {
			if got, want := uint64(Add(W(a), n)), sumBig(width, a, n); got != want {
				t.Error("Add", width, a, n, got, want)
			}
		}
		for _, b := range edges(width) {
			want := leadBig(width, a, b)
			if got := Diff(W(a), W(b)); got != want {
				t.Error("Diff", width, a, b, got, want)
			}
			if got := Less(W(a), W(b)); got != (want < 0) {
				t.Error("Less", width, a, b, got)
			}
		}
	}
}

func TestReckoning(t *testing.T) { // P1.1
	testReckoning[uint32](t, 32)
	testReckoning[uint64](t, 64)
}

func testWithin[W api.Word](t *testing.T, width int) {
	for _, x := range edges(width) {
		for _, from := range edges(width) {
			for _, n := range shifts() {
				if got, want := Within(W(x), W(from), n), withinBig(width, x, from, n); got != want {
					t.Error(width, x, from, n, got, want)
				}
			}
		}
	}
}

func TestWithin(t *testing.T) { // P1.1
	testWithin[uint32](t, 32)
	testWithin[uint64](t, 64)
	if Within(uint32(7), 7, 0) || Within(uint32(7), 7, -1) || Within(uint64(7), 7, math.MinInt) {
		t.Error("n below 1")
	}
	if !Within(uint32(6), 7, 1<<32) || !Within(uint32(6), 7, math.MaxInt) || Within(uint32(6), 7, 1<<32-1) {
		t.Error("n of all counters")
	}
}

func testLeast[W api.Word](t *testing.T, width int) {
	top := ^W(0)
	half := W(1) << (width - 1)
	for _, c := range []struct {
		first W
		more  []W
		want  W
	}{
		{5, nil, 5},
		{5, []W{}, 5},
		{5, []W{5}, 5},
		{5, []W{6, 4, 7}, 4},
		{4, []W{6, 5}, 4},
		{1, []W{top, 3}, top},
		{top, []W{0, 1}, top},
		{3, []W{0, top - 1, top}, top - 1},
		{0, []W{half}, half}, // at half the way round each one is behind the other: the later one stays
		{half, []W{0}, 0},
		{0, []W{half, 0}, 0},
		{0, []W{half + 1, 1}, 1}, // one by one: 1 is behind what there is then
	} {
		kept := slices.Clone(c.more)
		if got := Least(c.first, c.more...); got != c.want {
			t.Error(width, c.first, c.more, got, c.want)
		}
		if !slices.Equal(kept, c.more) {
			t.Error("changed", c.more, kept)
		}
	}
}

func TestLeast(t *testing.T) { // P1.1
	testLeast[uint32](t, 32)
	testLeast[uint64](t, 64)
}

func TestWidths(t *testing.T) { // P1.2
	for _, width := range []int{32, 64} {
		if !Right(width) {
			t.Error("Right", width)
		}
		for _, a := range edges(64) {
			if got, want := Cut(width, a), cutBig(width, number(a)); got != want {
				t.Error("Cut", width, a, got, want)
			}
			for _, b := range edges(64) {
				if got, want := Gap(width, a, b), leadBig(width, a, b); got != want {
					t.Error("Gap", width, a, b, got, want)
				}
			}
			for _, n := range shifts() {
				if got, want := Plus(width, a, n), sumBig(width, a, n); got != want {
					t.Error("Plus", width, a, n, got, want)
				}
			}
		}
	}
}

func TestWrongWidths(t *testing.T) { // P1.2
	for _, width := range []int{math.MinInt, -64, -32, -1, 0, 1, 8, 16, 31, 33, 63, 65, 96, 128, math.MaxInt} {
		if Right(width) || Cut(width, 7) != 0 || Gap(width, 7, 5) != 0 || Plus(width, 7, 5) != 0 {
			t.Error(width)
		}
	}
}

func testLead[W api.Word](t *testing.T, width int) {
	low, high := -(1 << (width - 1)), 1<<(width-1)-1
	for _, a := range edges(width) {
		for _, n := range append(shifts(), low, low+1, high-1, high) {
			if n < low || n > high {
				continue
			}
			if got := Diff(Add(W(a), n), W(a)); got != n {
				t.Error(width, a, n, got)
			}
		}
	}
}

func TestLead(t *testing.T) { // P1.3
	testLead[uint32](t, 32)
	testLead[uint64](t, 64)
}

func testNoneBehindLeast[W api.Word](t *testing.T, width int) {
	far := 1 << (width - 2)
	// Not both ends: counters at just far on both sides are half the way round apart, each behind the other.
	offs := []int{0, far, 1 - far, 17, -17, far - 1, 2 - far, 1, -1, far / 2, -far / 2}
	for _, c := range edges(width) {
		for k := range offs {
			var l []W
			for i := range offs {
				l = append(l, Add(W(c), offs[(i+k)%len(offs)]))
			}
			least := Least(l[0], l[1:]...)
			if least != Add(W(c), 1-far) {
				t.Error(width, c, k, least)
			}
			for _, x := range l {
				if Less(x, least) {
					t.Error("behind the least one", width, c, x, least)
				}
			}
		}
	}
}

func TestNoneBehindLeast(t *testing.T) { // P1.4
	testNoneBehindLeast[uint32](t, 32)
	testNoneBehindLeast[uint64](t, 64)
}

func TestExample(t *testing.T) {
	if n := Diff(uint32(2), uint32(1<<32-3)); n != 5 {
		t.Error(n)
	}
	if !Less(uint32(1<<32-3), uint32(2)) || Less(uint32(2), uint32(1<<32-3)) {
		t.Error("behind")
	}
}
