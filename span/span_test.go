package span

import (
	"math"
	"slices"
	"testing"

	"sakia/api"
)

// froms are positions about nought, where slots of small rings turn, and where counters of both widths go round.
func froms[W api.Word]() []W {
	var out []W
	for _, at := range []W{0, 8, ^W(0)/2 + 1, 0x9e3779b9} {
		for d := W(0); d < 9; d++ {
			out = append(out, at+d-4)
		}
	}
	return out
}

// wrongLengths are those that no right span has.
func wrongLengths() []int {
	return []int{math.MinInt, -1 << 32, -1 << 30, -2, -1, 1<<30 + 1, 1 << 31, 1 << 32, 1<<32 + 3, math.MaxInt}
}

// listed is the positions of a span, by counting alone.
func listed[W api.Word](s Span[W]) []W {
	var out []W
	pos := s.From
	for i := 0; i < s.N; i++ {
		out = append(out, pos)
		pos++
	}
	return out
}

func testRightEnd[W api.Word](t *testing.T) {
	for _, from := range froms[W]() {
		for _, n := range []int{0, 1, 2, 5, 1 << 20, 1<<30 - 1, 1 << 30} {
			s := Span[W]{from, n}
			if !s.Right() || s.End() != from+W(n) {
				t.Error(s, s.Right(), s.End())
			}
		}
	}
}

func TestRightEnd(t *testing.T) { // P3.1
	testRightEnd[uint32](t)
	testRightEnd[uint64](t)
}

func testWrong[W api.Word](t *testing.T) {
	zero := Span[W]{}
	for _, n := range wrongLengths() {
		for _, from := range []W{0, 1, 7, ^W(0)} {
			s := Span[W]{from, n}
			if s.Right() || s.End() != 0 {
				t.Error("End", s)
			}
			for _, pos := range []W{from, from + 1, from - 1, from + W(n), from + W(n) - 1, 0} {
				if i, ok := s.Place(pos); i != 0 || ok || s.Has(pos) {
					t.Error("Place", s, pos)
				}
			}
			for _, i := range []int{0, 1, -1, n, n - 1, math.MaxInt, math.MinInt} {
				if pos, ok := s.At(i); pos != 0 || ok {
					t.Error("At", s, i)
				}
				if a, b, ok := s.Cut(i); a != zero || b != zero || ok {
					t.Error("Cut", s, i)
				}
			}
			for _, cap := range []int{2, 8, 64, 1 << 30, 1 << 31, n} {
				if len(s.Pieces(cap)) != 0 {
					t.Error("Pieces", s, cap)
				}
			}
			for pos := range s.All() {
				t.Fatal("All", s, pos)
			}
		}
	}
}

func TestWrong(t *testing.T) { // P3.1, P3.2, P1
	testWrong[uint32](t)
	testWrong[uint64](t)
}

func testPlaces[W api.Word](t *testing.T) {
	for _, from := range froms[W]() {
		for n := range 12 {
			s := Span[W]{from, n}
			there := listed(s)
			for d := W(0); d < 24; d++ {
				pos := from + d - 6
				want := slices.Index(there, pos)
				i, ok := s.Place(pos)
				if ok != (want >= 0) || i != max(want, 0) || s.Has(pos) != ok {
					t.Error("Place", s, pos, i, ok)
				}
			}
			for i := -3; i < n+3; i++ {
				pos, ok := s.At(i)
				if i < 0 || i >= n {
					if pos != 0 || ok {
						t.Error("At", s, i, pos, ok)
					}
				} else if pos != there[i] || !ok {
					t.Error("At", s, i, pos, ok)
				}
			}
		}
	}
}

func testFarPlaces[W api.Word](t *testing.T) {
	for _, from := range froms[W]() {
		s := Span[W]{from, 1 << 30}
		for _, i := range []int{0, 1, 1<<30 - 2, 1<<30 - 1} {
			if pos, ok := s.At(i); pos != from+W(i) || !ok {
				t.Error("At", s, i, pos, ok)
			}
			if p, ok := s.Place(from + W(i)); p != i || !ok || !s.Has(from+W(i)) {
				t.Error("Place", s, i, p, ok)
			}
		}
		for _, i := range []int{math.MinInt, -1 << 32, -1, 1 << 30, 1 << 32, 1<<32 + 1, math.MaxInt} {
			if pos, ok := s.At(i); pos != 0 || ok {
				t.Error("At", s, i, pos, ok)
			}
		}
		for _, pos := range []W{from - 1, from + 1<<30, from + 1<<31, from - 1<<30} {
			if p, ok := s.Place(pos); p != 0 || ok || s.Has(pos) {
				t.Error("Place", s, pos, p, ok)
			}
		}
	}
}

func TestPlaces(t *testing.T) { // P3.1
	testPlaces[uint32](t)
	testPlaces[uint64](t)
	testFarPlaces[uint32](t)
	testFarPlaces[uint64](t)
	if far := (Span[uint64]{From: 3, N: 5}); far.Has(1<<32 + 4) {
		t.Error("64 digits were cut")
	}
}

func testMeets[W api.Word](t *testing.T) {
	for _, from := range froms[W]() {
		for n := range 6 {
			for m := range 6 {
				for d := W(0); d < 16; d++ {
					s, o := Span[W]{from, n}, Span[W]{from + d - 8, m}
					want := slices.ContainsFunc(listed(s), func(pos W) bool { return slices.Contains(listed(o), pos) })
					if s.Meets(o) != want {
						t.Error(s, o, want)
					}
				}
			}
		}
	}
}

func testFarMeets[W api.Word](t *testing.T) {
	for _, from := range froms[W]() {
		s := Span[W]{from, 1 << 30}
		for _, c := range []struct {
			off  W
			n    int
			want bool
		}{
			{0, 1 << 30, true},
			{1<<30 - 1, 1, true},
			{1<<30 - 1, 1 << 30, true},
			{1 << 30, 1 << 30, false},
			{1 << 31, 1 << 30, false},
			{-W(1 << 30), 1 << 30, false},
			{1 - W(1<<30), 1 << 30, true},
			{5, 0, false}, // no positions, though its From is within
			{5, 1, true},
		} {
			o := Span[W]{from + c.off, c.n}
			if s.Meets(o) != c.want || o.Meets(s) != c.want {
				t.Error(s, o, c.want)
			}
		}
		for _, n := range wrongLengths() {
			if o := (Span[W]{from + 1, n}); s.Meets(o) || o.Meets(s) || o.Meets(o) {
				t.Error("wrong", s, o)
			}
		}
	}
}

func TestMeets(t *testing.T) { // P3.2
	testMeets[uint32](t)
	testMeets[uint64](t)
	testFarMeets[uint32](t)
	testFarMeets[uint64](t)
}

func testJoin[W api.Word](t *testing.T) {
	for _, from := range froms[W]() {
		for _, c := range []struct {
			n, m int
			ok   bool
		}{
			{0, 0, true}, {0, 3, true}, {3, 0, true}, {2, 5, true},
			{1 << 30, 0, true}, {0, 1 << 30, true}, {1 << 29, 1 << 29, true}, {1<<30 - 1, 1, true},
			{1 << 30, 1, false}, {1, 1 << 30, false}, {1<<29 + 1, 1 << 29, false}, {1 << 30, 1 << 30, false},
		} {
			s, o, want := Span[W]{from, c.n}, Span[W]{from + W(c.n), c.m}, Span[W]{}
			if c.ok {
				want = Span[W]{from, c.n + c.m}
			}
			if got, ok := s.Join(o); got != want || ok != c.ok {
				t.Error(s, o, got, ok)
			}
			for _, off := range []W{1, ^W(0), 1 << 31} { // not at the end
				o.From = from + W(c.n) + off
				if got, ok := s.Join(o); got != (Span[W]{}) || ok {
					t.Error("apart", s, o, got, ok)
				}
			}
		}
	}
}

func testJoinWrong[W api.Word](t *testing.T) {
	for _, from := range froms[W]() {
		for _, n := range wrongLengths() {
			// Also such that both lengths together would be right.
			for _, m := range []int{0, 1, 2, 1 << 30, -n, -1} {
				wrong := Span[W]{from, n}
				for _, o := range []Span[W]{{from + W(n), m}, {0, m}, {from, m}} {
					if got, ok := wrong.Join(o); got != (Span[W]{}) || ok {
						t.Error("first", wrong, o, got, ok)
					}
				}
				s := Span[W]{from - W(m), m}
				if got, ok := s.Join(wrong); got != (Span[W]{}) || ok {
					t.Error("second", s, wrong, got, ok)
				}
			}
		}
	}
}

func TestJoin(t *testing.T) { // P3.2
	testJoin[uint32](t)
	testJoin[uint64](t)
	testJoinWrong[uint32](t)
	testJoinWrong[uint64](t)
	if got, ok := (Span[uint64]{From: 0, N: 3}).Join(Span[uint64]{From: 1<<32 + 3, N: 2}); got != (Span[uint64]{}) || ok {
		t.Error("64 digits were cut", got)
	}
}

func testCut[W api.Word](t *testing.T) {
	for _, from := range froms[W]() {
		for _, n := range []int{0, 1, 2, 7, 1<<30 - 1, 1 << 30} {
			s := Span[W]{from, n}
			for _, at := range []int{0, 1, 2, n / 2, n - 1, n, n + 1, -1, math.MinInt, math.MaxInt, 1 << 32} {
				a, b, ok := s.Cut(at)
				if at < 0 || at > n {
					if a != (Span[W]{}) || b != (Span[W]{}) || ok {
						t.Error("no such place", s, at, a, b, ok)
					}
					continue
				}
				if !ok || a != (Span[W]{from, at}) || b != (Span[W]{from + W(at), n - at}) {
					t.Error(s, at, a, b, ok)
				}
				if back, ok := a.Join(b); back != s || !ok { // P3.3
					t.Error("joined again", s, at, back, ok)
				}
			}
		}
	}
}

func TestCut(t *testing.T) { // P3.2, P3.3
	testCut[uint32](t)
	testCut[uint64](t)
}

func testPieces[W api.Word](t *testing.T) {
	for _, cap := range []int{2, 4, 8, 64} {
		for _, from := range froms[W]() {
			for n := range cap + 3 {
				s := Span[W]{from, n}
				got := s.Pieces(cap)
				runs := 1
				if n == 0 || n > cap {
					runs = 0
				} else if int(from%W(cap))+n > cap {
					runs = 2
				}
				if len(got) != runs {
					t.Error("how many", s, cap, got)
				}
				if n > cap {
					continue
				}
				var slots, want []int
				for _, p := range got {
					for i := range p[1] {
						slots = append(slots, p[0]+i)
					}
				}
				for _, pos := range listed(s) {
					want = append(want, int(pos%W(cap)))
				}
				if !slices.Equal(slots, want) { // P3.4
					t.Error("slots", s, cap, got)
				}
			}
		}
	}
}

func testFarPieces[W api.Word](t *testing.T) {
	for _, c := range []struct {
		from W
		n    int
		cap  int
		want [][2]int
	}{
		{0, 1 << 30, 1 << 30, [][2]int{{0, 1 << 30}}},
		{7, 1 << 30, 1 << 30, [][2]int{{7, 1<<30 - 7}, {0, 7}}},
		{^W(0), 1 << 30, 1 << 30, [][2]int{{1<<30 - 1, 1}, {0, 1<<30 - 1}}},
		{1 << 31, 3, 1 << 30, [][2]int{{0, 3}}},
		{^W(0) - 1, 2, 1 << 20, [][2]int{{1<<20 - 2, 2}}},
		{0, 1 << 30, 1 << 29, nil},
		{0, 0, 1 << 30, nil},
	} {
		if got := (Span[W]{c.from, c.n}).Pieces(c.cap); !slices.Equal(got, c.want) {
			t.Error(c, got)
		}
	}
	for _, cap := range []int{math.MinInt, -8, -1, 0, 1, 3, 6, 7, 9, 12, 1<<30 + 1, 1 << 31, 1 << 32, 1 << 62, math.MaxInt} {
		for _, n := range []int{0, 1, 2, 5} {
			if got := (Span[W]{5, n}).Pieces(cap); len(got) != 0 {
				t.Error("a ring that can't be", cap, n, got)
			}
		}
	}
}

func TestPieces(t *testing.T) { // P3.2, P3.4
	testPieces[uint32](t)
	testPieces[uint64](t)
	testFarPieces[uint32](t)
	testFarPieces[uint64](t)
	s := Span[uint32]{6, 4}
	a, b := s.Pieces(8), s.Pieces(8)
	a[0] = [2]int{9, 9}
	if b[0] != [2]int{6, 2} {
		t.Error("shared", b)
	}
}

func testAll[W api.Word](t *testing.T) {
	for _, from := range froms[W]() {
		for n := range 20 {
			s := Span[W]{from, n}
			all := s.All()
			for range 2 { // a range may be begun anew
				if got := slices.Collect(all); !slices.Equal(got, listed(s)) {
					t.Error(s, got)
				}
			}
			for stop := range n {
				var got []W
				for pos := range all {
					got = append(got, pos)
					if len(got) == stop+1 {
						break
					}
				}
				if !slices.Equal(got, listed(Span[W]{from, stop + 1})) {
					t.Error("left", s, stop, got)
				}
			}
		}
	}
	for pos := range (Span[W]{From: 9, N: 1 << 30}).All() {
		if pos == 9+1<<20 {
			return
		}
	}
	t.Error("the longest span was not gone through")
}

func TestAll(t *testing.T) { // P3.2
	testAll[uint32](t)
	testAll[uint64](t)
}

func TestExample(t *testing.T) {
	s := Span[uint32]{From: 1<<32 - 3, N: 5}
	if s.End() != 2 {
		t.Error(s.End())
	}
	if l := s.Pieces(8); !slices.Equal(l, [][2]int{{5, 3}, {0, 2}}) {
		t.Error(l)
	}
}
