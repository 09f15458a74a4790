package tick

import (
	"math"
	"slices"
	"testing"
)

// some are all clocks of so many threads whose numbers are some.
func some(n int, of ...int) [][]int {
	if n == 0 {
		return [][]int{nil}
	}
	var out [][]int
	for _, c := range some(n-1, of...) {
		for _, x := range of {
			out = append(out, append(slices.Clone(c), x))
		}
	}
	return out
}

// clocks are right ones of one thread to ten.
func clocks() [][]int {
	out := some(1, 0, 1, 2, Most-1, Most)
	out = append(out, some(2, 0, 1, 4, Most)...)
	out = append(out, some(3, 0, 1, 2)...)
	for n := 4; n <= 10; n++ {
		low, high := make([]int, n), slices.Repeat([]int{Most}, n)
		up, down := make([]int, n), make([]int, n)
		for i := range n {
			up[i], down[i] = i, n-i
		}
		last := slices.Clone(low)
		last[n-1] = 1
		out = append(out, low, high, up, down, last)
	}
	return out
}

// wrong are lists that are no clocks.
func wrong() [][]int {
	return [][]int{nil, {}, make([]int, 11), make([]int, 12), make([]int, 1000), slices.Repeat([]int{1}, 11),
		{-1}, {Most + 1}, {math.MinInt}, {math.MaxInt}, {0, -1}, {-1, 0}, {3, Most + 1}, {Most + 1, 3}, {0, 1, 2, 3, 4, 5, 6, 7, 8, -1},
		{0, 1, 2, 3, 4, 5, 6, 7, 8, Most + 1}, {0, 1, math.MaxInt, 3}, {Most, Most, 1 << 41}, {-1, Most + 1}}
}

// noThreads are numbers of no thread of n, which are at most 10.
func noThreads(n int) []int {
	return []int{-1, -2, n, n + 1, 10, 11, 1 << 32, -1 << 32, math.MaxInt, math.MinInt}
}

// below tells whether all numbers of one are at most the other's, without a look at whether they are right.
func below(a, b []int) bool {
	above := 0
	for i, x := range a {
		if x > b[i] {
			above++
		}
	}
	return above == 0
}

func TestNew(t *testing.T) { // P8.1
	for n := 1; n <= 10; n++ {
		c := New(n)
		if len(c) != n || slices.Max(c) != 0 || slices.Min(c) != 0 || !Right(c) || Sum(c) != 0 {
			t.Error(n, c)
		}
		c[0] = 5
		if New(n)[0] != 0 {
			t.Error("shared", n)
		}
	}
	for _, n := range []int{0, -1, -10, 11, 12, 1 << 32, 1<<32 + 1, math.MaxInt, math.MinInt} {
		if c := New(n); len(c) != 0 {
			t.Error(n, c)
		}
	}
}

func TestRight(t *testing.T) { // P8.1
	if Most != 1<<40 {
		t.Error(Most)
	}
	for _, c := range clocks() {
		kept := slices.Clone(c)
		if !Right(c) {
			t.Error(c)
		}
		if !slices.Equal(c, kept) {
			t.Error("changed", c, kept)
		}
		for i := range c {
			for _, x := range []int{-1, Most + 1, math.MinInt, math.MaxInt} {
				bad := slices.Clone(c)
				bad[i] = x
				if Right(bad) {
					t.Error(bad)
				}
			}
		}
	}
	for _, c := range wrong() {
		if Right(c) {
			t.Error(c)
		}
	}
}

func TestTick(t *testing.T) { // P8.1
	for _, c := range clocks() {
		for i := range c {
			kept := slices.Clone(c)
			got := Tick(c, i)
			if !slices.Equal(c, kept) {
				t.Error("changed", c, kept)
			}
			if c[i] == Most {
				if len(got) != 0 {
					t.Error("has all", c, i, got)
				}
				continue
			}
			want := slices.Clone(c)
			want[i]++
			if !slices.Equal(got, want) {
				t.Error(c, i, got)
			}
			got[i] = -7
			if !slices.Equal(c, kept) {
				t.Error("shared", c, i)
			}
		}
		for _, i := range noThreads(len(c)) {
			if got := Tick(c, i); len(got) != 0 {
				t.Error(c, i, got)
			}
		}
	}
	for _, c := range wrong() {
		for _, i := range append(noThreads(len(c)), 0, 1) {
			if got := Tick(c, i); len(got) != 0 {
				t.Error(c, i, got)
			}
		}
	}
	if got := Tick([]int{Most, Most - 1}, 1); !slices.Equal(got, []int{Most, Most}) {
		t.Error("the last step", got)
	}
}

func TestJoin(t *testing.T) { // P8.1
	for _, a := range clocks() {
		for _, b := range clocks() {
			keptA, keptB := slices.Clone(a), slices.Clone(b)
			got := Join(a, b)
			var want []int
			for i := range a {
				if len(a) == len(b) {
					want = append(want, slices.Max([]int{a[i], b[i]}))
				}
			}
			if !slices.Equal(got, want) {
				t.Error(a, b, got)
			}
			for i := range got {
				got[i] = -7
			}
			if !slices.Equal(a, keptA) || !slices.Equal(b, keptB) {
				t.Error("shared or changed", a, b)
			}
		}
	}
}

func TestCompare(t *testing.T) { // P8.2
	for _, a := range clocks() {
		for _, b := range clocks() {
			alike := len(a) == len(b)
			within := alike && below(a, b)
			apart := alike && !below(a, b) && !below(b, a)
			if Within(a, b) != within || Apart(a, b) != apart || Same(a, b) != slices.Equal(a, b) {
				t.Error(a, b, Within(a, b), Apart(a, b), Same(a, b))
			}
		}
	}
	for _, c := range []struct {
		a, b                []int
		within, apart, same bool
	}{
		{[]int{0}, []int{0}, true, false, true},
		{[]int{1, 4}, []int{2, 0}, false, true, false},
		{[]int{1, 4}, []int{1, 4}, true, false, true},
		{[]int{1, 3}, []int{1, 4}, true, false, false},
		{[]int{1, 4}, []int{1, 3}, false, false, false},
		{[]int{1, 4}, []int{1, 4, 0}, false, false, false},
		{[]int{1, 4, 0}, []int{1, 4}, false, false, false},
		{[]int{1, 0, 0}, []int{0, 4}, false, false, false},
		{[]int{0, Most}, []int{Most, 0}, false, true, false},
		{[]int{0, Most}, []int{Most, Most}, true, false, false},
	} {
		if Within(c.a, c.b) != c.within || Apart(c.a, c.b) != c.apart || Same(c.a, c.b) != c.same {
			t.Error(c.a, c.b, Within(c.a, c.b), Apart(c.a, c.b), Same(c.a, c.b))
		}
	}
}

func TestTwoWrong(t *testing.T) { // P8.1, P8.2, P1
	for _, a := range wrong() {
		others := append(clocks(), wrong()...)
		for n := range 12 {
			others = append(others, make([]int, n), slices.Repeat([]int{Most}, n))
		}
		for _, b := range others {
			for _, two := range [][2][]int{{a, b}, {b, a}} {
				if Within(two[0], two[1]) || Apart(two[0], two[1]) || Same(two[0], two[1]) || len(Join(two[0], two[1])) != 0 {
					t.Error(two)
				}
			}
		}
	}
}

func TestKnows(t *testing.T) { // P8.2
	for _, c := range clocks() {
		for i := range c {
			for _, n := range []int{0, 1, 2, 3, -1, math.MinInt, math.MaxInt, Most, Most + 1, Most - 1, c[i] - 1, c[i], c[i] + 1} {
				if got := Knows(c, i, n); got != (n <= c[i]) {
					t.Error(c, i, n, got)
				}
			}
		}
		for _, i := range noThreads(len(c)) {
			for _, n := range []int{0, 1, -1, math.MinInt, math.MaxInt} {
				if Knows(c, i, n) {
					t.Error(c, i, n)
				}
			}
		}
	}
	for _, c := range wrong() {
		for _, i := range append(noThreads(len(c)), 0, 1) {
			for _, n := range []int{0, 1, -1, math.MinInt, math.MaxInt} {
				if Knows(c, i, n) {
					t.Error(c, i, n)
				}
			}
		}
	}
}

func TestSum(t *testing.T) { // P8.2
	for _, c := range clocks() {
		want := 0
		for _, x := range c {
			want += x
		}
		if got := Sum(c); got != want {
			t.Error(c, got)
		}
	}
	if got := Sum(slices.Repeat([]int{Most}, 10)); got != 10<<40 {
		t.Error("the greatest", got)
	}
	for _, c := range wrong() {
		if got := Sum(c); got != 0 {
			t.Error(c, got)
		}
	}
}

func TestJoinIsTheLeast(t *testing.T) { // P8.3
	for _, all := range [][][]int{some(1, 0, 1, 2, Most), some(2, 0, 1, 2, Most), some(3, 0, 1, Most)} {
		for _, a := range all {
			for _, b := range all {
				j := Join(a, b)
				if !Right(j) || !Within(a, j) || !Within(b, j) || !Same(j, Join(b, a)) {
					t.Error(a, b, j)
				}
				for _, c := range all {
					if (Within(a, c) && Within(b, c)) != Within(j, c) {
						t.Error(a, b, c, j)
					}
				}
			}
		}
	}
}

func TestWithinIsAnOrder(t *testing.T) { // P8.4
	for _, all := range [][][]int{some(1, 0, 1, 2, Most), some(2, 0, 1, 2, Most), some(3, 0, 1, Most)} {
		for _, a := range all {
			if !Within(a, a) {
				t.Error(a)
			}
			for _, b := range all {
				if Within(a, b) && Within(b, a) != slices.Equal(a, b) {
					t.Error(a, b)
				}
				for _, c := range all {
					if Within(a, b) && Within(b, c) && !Within(a, c) {
						t.Error(a, b, c)
					}
				}
			}
		}
	}
}

func TestTickGoesOn(t *testing.T) { // P8.4
	for _, all := range [][][]int{some(1, 0, 1, 2), some(2, 0, 1, 2, Most-1), some(3, 0, 1, Most-1)} {
		for _, c := range all {
			for i := range c {
				next := Tick(c, i)
				if !Within(c, next) || Within(next, c) || Sum(next) != Sum(c)+1 || !Knows(next, i, c[i]+1) || Knows(c, i, c[i]+1) {
					t.Error(c, i, next)
				}
				for _, was := range all {
					if Within(was, c) && Within(next, was) {
						t.Error(was, c, next)
					}
				}
			}
		}
	}
}

func TestExample(t *testing.T) {
	a, b := []int{1, 4}, []int{2, 0}
	if j := Join(a, b); !slices.Equal(j, []int{2, 4}) || !Apart(a, b) {
		t.Error(j, Apart(a, b))
	}
}
