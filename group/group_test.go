package group

import (
	"math"
	"slices"
	"testing"

	"sakia/api"
)

// groups are none, all, single numbers, the ends, and some with many and few.
func groups() []Group {
	out := []Group{0, ^Group(0), 1, 1 << 63, 1<<63 | 1, 9, 1<<31 | 1<<32, 1<<63 - 1, ^Group(1),
		0x5555555555555555, 0xaaaaaaaaaaaaaaaa, 0x9e3779b97f4a7c15, 0xbf58476d1ce4e5b9, 0x00ffff00ffff0000}
	for i := range 64 {
		out = append(out, Group(1)<<i)
	}
	return out
}

// noNumbers are ints that are in no group; some would be by their lowest digits.
func noNumbers() []int {
	return []int{-1, -2, -63, -64, -65, 64, 65, 127, 128, 1 << 31, 1 << 32, 1<<32 + 3, -1 << 32, math.MaxInt, math.MaxInt - 1, math.MinInt, math.MinInt + 1}
}

// set is a group as a row of bools, by dividing alone.
func set(g Group) [64]bool {
	var out [64]bool
	for i := range out {
		out[i] = g%2 == 1
		g /= 2
	}
	return out
}

// listed is a group's numbers, from its row of bools.
func listed(g Group) []int {
	var out []int
	for i, in := range set(g) {
		if in {
			out = append(out, i)
		}
	}
	return out
}

func TestOf(t *testing.T) { // P5.1
	for _, c := range []struct {
		l    []int
		want Group
	}{
		{nil, 0},
		{[]int{}, 0},
		{[]int{0}, 1},
		{[]int{63}, 1 << 63},
		{[]int{31, 32}, 3 << 31},
		{[]int{3, 0, 3}, 9},
		{[]int{63, 0, 63, 0, 0}, 1<<63 | 1},
		{[]int{5, 4, 3, 2, 1}, 62},
	} {
		kept := slices.Clone(c.l)
		if g, e := Of(c.l...); g != c.want || e != api.OK {
			t.Error(c.l, g, e)
		}
		if !slices.Equal(kept, c.l) {
			t.Error("changed", kept, c.l)
		}
	}
	for _, g := range groups() {
		l := listed(g)
		slices.Reverse(l)
		if got, e := Of(append(l, l...)...); got != g || e != api.OK {
			t.Error(g, got, e)
		}
	}
}

func TestOfWrong(t *testing.T) { // P5.1, P1
	for _, i := range noNumbers() {
		for _, l := range [][]int{{i}, {i, 5}, {5, i}, {0, 63, i, 7}, {i, i}} {
			if g, e := Of(l...); g != 0 || e != api.ErrArg {
				t.Error(l, g, e)
			}
		}
	}
}

func TestFull(t *testing.T) { // P5.1
	var want Group
	for n := range 65 {
		if got := Full(n); got != want {
			t.Error(n, got, want)
		}
		want = want*2 + 1
	}
	for _, n := range []int{-1, -2, -64, -1 << 32, math.MinInt, math.MinInt + 1} {
		if got := Full(n); got != 0 {
			t.Error(n, got)
		}
	}
	for _, n := range []int{64, 65, 127, 128, 1 << 32, math.MaxInt} {
		if got := Full(n); got != 1<<64-1 {
			t.Error(n, got)
		}
	}
}

func TestHasWithWithout(t *testing.T) { // P5.1
	for _, g := range groups() {
		for i, in := range set(g) {
			if g.Has(i) != in {
				t.Error("Has", g, i)
			}
			more, less := set(g), set(g)
			more[i], less[i] = true, false
			if got := g.With(i); set(got) != more {
				t.Error("With", g, i, got)
			}
			if got := g.Without(i); set(got) != less {
				t.Error("Without", g, i, got)
			}
		}
		for _, i := range noNumbers() {
			if g.Has(i) || g.With(i) != g || g.Without(i) != g {
				t.Error("no number", g, i, g.Has(i), g.With(i), g.Without(i))
			}
		}
	}
}

func TestLen(t *testing.T) { // P5.1
	for _, g := range groups() {
		if got := g.Len(); got != len(listed(g)) {
			t.Error(g, got)
		}
	}
	if Group(0).Len() != 0 || (^Group(0)).Len() != 64 {
		t.Error("ends")
	}
}

// above is the least number that is greater than one, by going through a list.
func above(l []int, i int) (int, bool) {
	for _, j := range l {
		if j > i {
			return j, true
		}
	}
	return 0, false
}

func TestLeastNext(t *testing.T) { // P5.2
	for _, g := range groups() {
		l := listed(g)
		want, wantOK := above(l, math.MinInt)
		if i, ok := g.Least(); i != want || ok != wantOK {
			t.Error("Least", g, i, ok)
		}
		for _, i := range noNumbers() {
			want, wantOK := above(l, i)
			if j, ok := g.Next(i); j != want || ok != wantOK {
				t.Error("Next", g, i, j, ok)
			}
		}
		for i := range 64 {
			want, wantOK := above(l, i)
			if j, ok := g.Next(i); j != want || ok != wantOK {
				t.Error("Next", g, i, j, ok)
			}
		}
	}
}

func TestTwoGroups(t *testing.T) { // P5.2
	for _, g := range groups() {
		for _, o := range groups() {
			a, b := set(g), set(o)
			var both, either, less [64]bool
			inside := true
			for i := range 64 {
				both[i], either[i], less[i] = a[i] && b[i], a[i] || b[i], a[i] && !b[i]
				inside = inside && (!a[i] || b[i])
			}
			if set(g.Both(o)) != both || set(g.Either(o)) != either || set(g.Less(o)) != less || g.Inside(o) != inside {
				t.Error(g, o, g.Both(o), g.Either(o), g.Less(o), g.Inside(o))
			}
		}
		if !Group(0).Inside(g) || !g.Inside(^Group(0)) || !g.Inside(g) {
			t.Error("Inside", g)
		}
	}
}

func TestListAll(t *testing.T) { // P5.2
	for _, g := range groups() {
		want := listed(g)
		if got := g.List(); !slices.Equal(got, want) {
			t.Error("List", g, got)
		}
		all := g.All()
		for range 2 { // a range may be begun anew
			if got := slices.Collect(all); !slices.Equal(got, want) {
				t.Error("All", g, got)
			}
		}
		for stop := range want {
			var got []int
			for i := range all {
				got = append(got, i)
				if len(got) == stop+1 {
					break
				}
			}
			if !slices.Equal(got, want[:stop+1]) {
				t.Error("left", g, stop, got)
			}
		}
	}
	for i := range Group(0).All() {
		t.Error("of none", i)
	}
	g := Group(9)
	a, b := g.List(), g.List()
	a[0] = 7
	if b[0] != 0 || g.List()[0] != 0 {
		t.Error("shared", b)
	}
}

func TestApartAndTogether(t *testing.T) { // P5.3
	for _, g := range groups() {
		for _, o := range groups() {
			both, less := g.Both(o), g.Less(o)
			if both.Both(less) != 0 || both.Either(less) != g || both.Len()+less.Len() != g.Len() {
				t.Error(g, o, both, less)
			}
		}
	}
}

func TestNextGoesThroughAll(t *testing.T) { // P5.4
	for _, g := range groups() {
		var got []int
		for i, ok := g.Least(); ok && len(got) <= 64; i, ok = g.Next(i) {
			got = append(got, i)
		}
		if !slices.Equal(got, listed(g)) {
			t.Error(g, got)
		}
	}
}

func TestExample(t *testing.T) {
	g, e := Of(3, 0, 3)
	if l := g.List(); e != api.OK || !slices.Equal(l, []int{0, 3}) {
		t.Error(l, e)
	}
	if i, ok := g.Next(0); i != 3 || !ok {
		t.Error(i, ok)
	}
}
