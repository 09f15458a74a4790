package graph

import (
	"math"
	"slices"
	"testing"

	"sakia/api"
	"sakia/group"
)

// lists are the graph of n consumers whose lists a number's digits tell: digit c*n+a, whether a is ahead of c.
func lists(n int, digits uint64) [][]int {
	up := make([][]int, n)
	for c := range up {
		for a := range n {
			if digits>>(c*n+a)%2 == 1 {
				up[c] = append(up[c], a)
			}
		}
		if digits>>c%2 == 1 { // so that lists don't all rise
			slices.Reverse(up[c])
		}
	}
	return up
}

// graphs are all of one to three consumers, and many of four to six, with cycles and without.
func graphs() [][][]int {
	var out [][][]int
	for n := 1; n <= 3; n++ {
		for digits := range uint64(1) << (n * n) {
			out = append(out, lists(n, digits))
		}
	}
	x := uint64(1)
	for n := 4; n <= 6; n++ {
		for range 3000 {
			x = x*6364136223846793005 + 1442695040888963407
			digits := x>>20 ^ x>>41
			out = append(out, lists(n, digits), lists(n, digits&(x>>7)&(x>>11)), forward(n, digits))
		}
	}
	return out
}

// forward is a graph without a cycle: who is ahead of whom goes by a row that digits mix.
func forward(n int, digits uint64) [][]int {
	row := make([]int, n)
	for i := range row {
		row[i] = i
	}
	for i := range row {
		j := int(digits>>(3*i)) % n
		row[i], row[j] = row[j], row[i]
	}
	up := make([][]int, n)
	for i, c := range row {
		for j, a := range row[:i] {
			if digits>>(18+i*(i-1)/2+j)%2 == 1 {
				up[c] = append(up[c], a)
			}
		}
	}
	return up
}

// paths tells who is above whom, by joining ways over one more consumer each time.
func paths(up [][]int) [6][6]bool {
	var is [6][6]bool
	for c, l := range up {
		for _, a := range l {
			is[c][a] = true
		}
	}
	for by := range up {
		for c := range up {
			for a := range up {
				is[c][a] = is[c][a] || is[c][by] && is[by][a]
			}
		}
	}
	return is
}

func cyclic(is [6][6]bool) bool {
	for c := range is {
		if is[c][c] {
			return true
		}
	}
	return false
}

// depths are raised till none is too low: no more often than there are consumers.
func depths(up [][]int) []int {
	out := make([]int, len(up))
	for range up {
		for c, l := range up {
			for _, a := range l {
				if out[c] <= out[a] {
					out[c] = out[a] + 1
				}
			}
		}
	}
	return out
}

func rightGraphs(t *testing.T) [][][]int {
	var out [][][]int
	for _, up := range graphs() {
		if !cyclic(paths(up)) {
			out = append(out, up)
		}
	}
	if len(out) < 5000 {
		t.Fatal("too few", len(out))
	}
	return out
}

// kept is the same lists, by the tests' own means.
func kept(up [][]int) [][]int {
	var out [][]int
	for _, l := range up {
		out = append(out, append([]int(nil), l...))
	}
	return out
}

func same(a, b [][]int) bool {
	return slices.EqualFunc(a, b, func(x, y []int) bool { return slices.Equal(x, y) })
}

// broken are graphs that aren't right, and why.
func broken() []struct {
	up   [][]int
	want api.Errno
} {
	return []struct {
		up   [][]int
		want api.Errno
	}{
		{nil, api.ErrConsumers},
		{[][]int{}, api.ErrConsumers},
		{make([][]int, 7), api.ErrConsumers},
		{make([][]int, 64), api.ErrConsumers},
		{make([][]int, 1000), api.ErrConsumers},
		{[][]int{{-1}, {0, 0}, {2}, nil, nil, nil, nil}, api.ErrConsumers},
		{[][]int{{1}, {0}, nil, nil, nil, nil, nil}, api.ErrConsumers},
		{[][]int{{5}}, api.ErrGraph},
		{[][]int{{1}}, api.ErrGraph},
		{[][]int{{-1}}, api.ErrGraph},
		{[][]int{nil, {2}}, api.ErrGraph},
		{[][]int{nil, {0, -1}}, api.ErrGraph},
		{[][]int{nil, {0, 0}}, api.ErrGraph},
		{[][]int{nil, nil, {0, 1, 0}}, api.ErrGraph},
		{[][]int{nil, nil, {1, 0, 1}}, api.ErrGraph},
		{[][]int{nil, nil, nil, nil, nil, {6}}, api.ErrGraph},
		{[][]int{nil, {63}}, api.ErrGraph},
		{[][]int{nil, {64}}, api.ErrGraph},
		{[][]int{nil, {1 << 32}}, api.ErrGraph},
		{[][]int{nil, {-1 << 32}}, api.ErrGraph},
		{[][]int{nil, {math.MaxInt}}, api.ErrGraph},
		{[][]int{nil, {math.MinInt}}, api.ErrGraph},
		{[][]int{nil, make([]int, 1000)}, api.ErrGraph},
		{[][]int{{0}, {1, 1}}, api.ErrGraph},       // a cycle stands first, but is told last
		{[][]int{{1}, {0}, {3}}, api.ErrGraph},     // likewise
		{[][]int{{0, 0}}, api.ErrGraph},            // likewise
		{[][]int{{1}, {0}, {-1, 2}}, api.ErrGraph}, // likewise
		{[][]int{{0}}, api.ErrCycle},
		{[][]int{nil, {1}}, api.ErrCycle},
		{[][]int{{1}, {0}}, api.ErrCycle},
		{[][]int{nil, {0, 2}, {1}}, api.ErrCycle},
		{[][]int{{1}, {2}, {0}}, api.ErrCycle},
		{[][]int{{5}, {0}, {1}, {2}, {3}, {4}}, api.ErrCycle},
		{[][]int{nil, {0}, {1}, {2, 5}, {3}, {4}}, api.ErrCycle},
		{[][]int{nil, nil, nil, nil, nil, {0, 1, 2, 3, 4, 5}}, api.ErrCycle},
		{[][]int{{0, 1, 2, 3, 4, 5}, nil, nil, nil, nil, nil}, api.ErrCycle},
	}
}

func noConsumers(n int) []int {
	return []int{-1, -2, -64, n, n + 1, 6, 7, 63, 64, 1 << 32, -1 << 32, math.MaxInt, math.MinInt}
}

func TestCheck(t *testing.T) { // P9.1
	for _, up := range graphs() {
		want := api.OK
		if cyclic(paths(up)) {
			want = api.ErrCycle
		}
		was := kept(up)
		if got := Check(up); got != want {
			t.Error(up, got, want)
		}
		if !same(up, was) {
			t.Error("changed", up, was)
		}
	}
	for _, up := range [][][]int{{nil}, {{}}, make([][]int, 6), {nil, {0}, {0}, {1, 2}}, {nil, {0}, {0}, {2, 1, 0}},
		{{1}, {2}, {3}, {4}, {5}, {}}, {{1, 2, 3, 4, 5}, {2, 3, 4, 5}, {3, 4, 5}, {4, 5}, {5}, nil}} {
		if got := Check(up); got != api.OK {
			t.Error(up, got)
		}
	}
}

func TestCheckWrong(t *testing.T) { // P9.1, P1
	for _, b := range broken() {
		was := kept(b.up)
		if got := Check(b.up); got != b.want {
			t.Error(b.up, got, b.want)
		}
		if !same(b.up, was) {
			t.Error("changed", b.up, was)
		}
	}
}

func testNothing(t *testing.T, up [][]int, c int) {
	if Above(up, c) != 0 || Below(up, c) != 0 || Depth(up, c) != 0 {
		t.Error(up, c, Above(up, c), Below(up, c), Depth(up, c))
	}
}

func TestNothingOfWrong(t *testing.T) { // P9.1, P9.2, P1
	for _, b := range broken() {
		if len(Roots(b.up)) != 0 || len(Ends(b.up)) != 0 || len(Order(b.up)) != 0 {
			t.Error(b.up, Roots(b.up), Ends(b.up), Order(b.up))
		}
		for c := range 7 {
			testNothing(t, b.up, c)
		}
		for _, c := range noConsumers(len(b.up)) {
			testNothing(t, b.up, c)
		}
	}
	for _, up := range graphs() {
		if cyclic(paths(up)) {
			if len(Roots(up)) != 0 || len(Ends(up)) != 0 || len(Order(up)) != 0 {
				t.Error(up, Roots(up), Ends(up), Order(up))
			}
			for c := range up {
				testNothing(t, up, c)
			}
		}
	}
}

func TestNothingOfNobody(t *testing.T) { // P9.1, P9.2, P1
	for _, up := range [][][]int{{nil}, {nil, {0}}, {{1}, nil}, {nil, {0}, {0}, {1, 2}}, {{1}, {2}, {3}, {4}, {5}, {}}} {
		for _, c := range noConsumers(len(up)) {
			testNothing(t, up, c)
		}
	}
}

func TestRootsEnds(t *testing.T) { // P9.1
	for _, up := range rightGraphs(t) {
		var roots, ends []int
		for c := range up {
			if len(up[c]) == 0 {
				roots = append(roots, c)
			}
			if !slices.ContainsFunc(up, func(l []int) bool { return slices.Contains(l, c) }) {
				ends = append(ends, c)
			}
		}
		was := kept(up)
		if got := Roots(up); !slices.Equal(got, roots) {
			t.Error("roots", up, got, roots)
		}
		if got := Ends(up); !slices.Equal(got, ends) {
			t.Error("ends", up, got, ends)
		}
		if !same(up, was) {
			t.Error("changed", up, was)
		}
	}
}

func TestAboveBelow(t *testing.T) { // P9.1
	for _, up := range rightGraphs(t) {
		is, was := paths(up), kept(up)
		for c := range up {
			var above, below group.Group
			for o := range up {
				if is[c][o] {
					above |= 1 << o
				}
				if is[o][c] {
					below |= 1 << o
				}
			}
			if got := Above(up, c); got != above {
				t.Error("above", up, c, got, above)
			}
			if got := Below(up, c); got != below {
				t.Error("below", up, c, got, below)
			}
		}
		if !same(up, was) {
			t.Error("changed", up, was)
		}
	}
}

func TestDepthOrder(t *testing.T) { // P9.2
	for _, up := range rightGraphs(t) {
		deep, was := depths(up), kept(up)
		var order []int
		for d := range up {
			for c := range up {
				if deep[c] == d {
					order = append(order, c)
				}
			}
		}
		for c := range up {
			if got := Depth(up, c); got != deep[c] {
				t.Error("depth", up, c, got, deep[c])
			}
		}
		if got := Order(up); !slices.Equal(got, order) {
			t.Error("order", up, got, order)
		}
		if !same(up, was) {
			t.Error("changed", up, was)
		}
	}
}

func TestDepths(t *testing.T) { // P9.2
	for _, c := range []struct {
		up          [][]int
		deep, order []int
	}{
		{[][]int{nil}, []int{0}, []int{0}},
		{make([][]int, 6), []int{0, 0, 0, 0, 0, 0}, []int{0, 1, 2, 3, 4, 5}},
		{[][]int{nil, {0}, {0}, {1, 2}}, []int{0, 1, 1, 2}, []int{0, 1, 2, 3}},
		{[][]int{{1}, {2}, {3}, {4}, {5}, nil}, []int{5, 4, 3, 2, 1, 0}, []int{5, 4, 3, 2, 1, 0}},
		{[][]int{{4, 1}, {2}, {3}, nil, nil}, []int{3, 2, 1, 0, 0}, []int{3, 4, 2, 1, 0}}, // the longest way counts
		{[][]int{{5}, {5}, nil, {5}, {0}, nil}, []int{1, 1, 0, 1, 2, 0}, []int{2, 5, 0, 1, 3, 4}},
	} {
		for i, want := range c.deep {
			if got := Depth(c.up, i); got != want {
				t.Error(c.up, i, got, want)
			}
		}
		if got := Order(c.up); !slices.Equal(got, c.order) {
			t.Error(c.up, got, c.order)
		}
	}
}

func TestCopy(t *testing.T) { // P9.2, and rule 4
	all := rightGraphs(t)[:600]
	for _, b := range broken() { // of wrong ones too
		all = append(all, b.up)
	}
	for _, up := range all {
		was := kept(up)
		got := Copy(up)
		if !same(got, up) {
			t.Error(up, got)
		}
		for c := range got {
			for i := range got[c] {
				got[c][i] = -7
			}
			got[c] = append(got[c], -8)
		}
		if !same(up, was) {
			t.Error("shared", up, was)
		}
	}
}

func TestCopyKeepsApart(t *testing.T) { // P9.2: no two lists of an answer share memory, even where they did
	one := []int{0, 1, 2}
	got := Copy([][]int{one[:1], one[1:2], one[:2:2], one[:0]})
	for c := range got {
		got[c] = append(got[c], 10+c)
		got[c][0] = 20 + c
	}
	if !same(got, [][]int{{20, 10}, {21, 11}, {22, 1, 12}, {23}}) || !slices.Equal(one, []int{0, 1, 2}) {
		t.Error(got, one)
	}
}

func TestAnswersAreNew(t *testing.T) { // rule 4
	up := [][]int{nil, {0}, {0}, {1, 2}}
	for _, f := range []func([][]int) []int{Roots, Ends, Order} {
		first := f(up)
		want := slices.Clone(first)
		for i := range first {
			first[i] = -7
		}
		if got := f(up); !slices.Equal(got, want) {
			t.Error(got, want)
		}
	}
}

func TestAboveIsAnOrder(t *testing.T) { // P9.3
	for _, up := range rightGraphs(t) {
		if len(Roots(up)) == 0 || len(Ends(up)) == 0 {
			t.Error("no root or no end", up)
		}
		for c := range up {
			if Above(up, c).Has(c) || Below(up, c).Has(c) {
				t.Error("above itself", up, c)
			}
			for b := range Above(up, c).All() {
				if !Above(up, b).Inside(Above(up, c)) || !Below(up, b).Has(c) {
					t.Error(up, b, c)
				}
			}
		}
	}
}

func TestOrderGoesDown(t *testing.T) { // P9.4
	for _, up := range rightGraphs(t) {
		order := Order(up)
		var ahead group.Group
		for _, c := range order {
			if !Above(up, c).Inside(ahead) || ahead.Has(c) {
				t.Error(up, order, c)
			}
			ahead = ahead.With(c)
		}
		if len(order) != len(up) || ahead != group.Full(len(up)) {
			t.Error("not all", up, order)
		}
		roots, _ := group.Of(Roots(up)...)
		for _, c := range Ends(up) {
			if !roots.Has(c) && Above(up, c).Both(roots) == 0 {
				t.Error("an end below no root", up, c)
			}
		}
	}
}

func TestExample(t *testing.T) {
	up := [][]int{nil, {0}, {0}, {1, 2}}
	if !slices.Equal(Roots(up), []int{0}) || !slices.Equal(Ends(up), []int{3}) {
		t.Error(Roots(up), Ends(up))
	}
	if Depth(up, 0) != 0 || Depth(up, 1) != 1 || Depth(up, 2) != 1 || Depth(up, 3) != 2 {
		t.Error("depths")
	}
	if !slices.Equal(Above(up, 3).List(), []int{0, 1, 2}) || !slices.Equal(Below(up, 0).List(), []int{1, 2, 3}) {
		t.Error(Above(up, 3), Below(up, 0))
	}
}
