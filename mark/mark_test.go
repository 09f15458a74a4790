package mark

import (
	"math"
	"math/rand"
	"reflect"
	"slices"
	"testing"

	"sakia/api"
	"sakia/board"
	"sakia/layout"
)

// having are the variants that have marks.
func having() []int { return []int{api.Cas, api.Faa, api.Lock} }

// lacking are the others.
func lacking() []int { return []int{api.One, api.Stamp} }

// starts are positions about the places where counters of both widths go round.
func starts() []uint64 {
	return []uint64{0, 1, 6, 64, 1 << 31, 1<<32 - 5, 1<<32 - 1, 1<<63 - 2, 1<<64 - 3}
}

// layoutOf is a layout with two consumers.
func layoutOf(variant, width, cap int, start uint64) layout.Layout {
	l, _ := layout.Of(api.Conf{Variant: variant, Width: width, Cap: cap, Producers: 1, Start: start, Up: [][]int{nil, {0}}})
	return l
}

// boardOf is the board of such a layout.
func boardOf[W api.Word](width, variant, cap int, start uint64) *board.Board[W] {
	return board.New[W](layoutOf(variant, width, cap, start))
}

// frame is registers of which each has something.
func frame[W api.Word](i, n int, from, val W) api.Frame[W] {
	return api.Frame[W]{Op: 1, N: n, Phase: 3, Pc: 4, I: i, J: 5, From: from, Min: 7, Val: val, Own: 9, Data: []int{10}}
}

// cells is what all cells have.
func cells[W api.Word](b *board.Board[W]) []uint64 {
	var out []uint64
	for cell := range b.Layout().Cells {
		out = append(out, b.Peek(cell))
	}
	return out
}

// last is, for each slot, which position was published there last: a ring reckoned without rounds.
type last[W api.Word] []W

// atFirst is a ring in which the positions of a capacity ahead of the start count as published.
func atFirst[W api.Word](cap int, start W) last[W] {
	r := make(last[W], cap)
	for i := range cap {
		r.put(start - W(i) - 1)
	}
	return r
}

func (r last[W]) put(pos W)      { r[uint64(pos)%uint64(len(r))] = pos }
func (r last[W]) has(pos W) bool { return r[uint64(pos)%uint64(len(r))] == pos }

// prefix is how many from one on are published, of most at most.
func (r last[W]) prefix(from W, most int) int {
	n := 0
	for n < most && n < len(r) && r.has(from+W(n)) {
		n++
	}
	return n
}

// agree holds a board's marks against a ring, a lap on either side of a position.
func agree[W api.Word](t *testing.T, b *board.Board[W], r last[W], about W) {
	t.Helper()
	n := b.Len()
	for i := range 4 * len(r) {
		pos := about + W(i) - W(2*len(r))
		if Marked(b, pos) != r.has(pos) {
			t.Fatal(pos, Marked(b, pos), r)
		}
		most := i % (len(r) + 2)
		if got := Prefix(b, pos, most); got != r.prefix(pos, most) {
			t.Fatal(pos, most, got, r)
		}
	}
	if b.Len() != n {
		t.Fatal("accesses", b.Log())
	}
}

// access is the one that lays or looks at a position's mark.
func access[W api.Word](b *board.Board[W], t int, pos W, lays bool) api.Access {
	l := b.Layout()
	kind := api.Load
	switch {
	case lays && l.Conf.Variant == api.Lock:
		kind = api.Write
	case lays:
		kind = api.Store
	case l.Conf.Variant == api.Lock:
		kind = api.Read
	}
	cell := l.Marks + int(uint64(pos)%uint64(l.Conf.Cap))
	a := api.Access{Thread: t, Kind: kind, Cell: cell, Old: b.Peek(cell), New: b.Peek(cell)}
	if lays {
		a.New = uint64(pos) / uint64(l.Conf.Cap)
	}
	return a
}

// P17.1: Cas, Faa and Lock have marks.
func TestHas(t *testing.T) {
	for _, v := range having() {
		if !Has(boardOf[uint32](32, v, 4, 5)) || !Has(boardOf[uint64](64, v, 2, 1<<64-1)) {
			t.Error(v)
		}
	}
	for _, v := range lacking() {
		if Has(boardOf[uint32](32, v, 4, 5)) || Has(boardOf[uint64](64, v, 2, 1<<64-1)) {
			t.Error(v)
		}
	}
	if Has[uint32](nil) || Has[uint64](nil) {
		t.Error("nil")
	}
}

// each goes through boards with marks of a width.
func each[W api.Word](width int, do func(b *board.Board[W], start W)) {
	for _, v := range having() {
		for _, cap := range []int{2, 4, 64} {
			for _, start := range starts() {
				do(boardOf[W](width, v, cap, start), W(start))
			}
		}
	}
}

func firsts[W api.Word](t *testing.T, width int) {
	each(width, func(b *board.Board[W], start W) {
		cap := b.Layout().Conf.Cap
		agree(t, b, atFirst(cap, start), start)
		for i := range 2 * cap {
			if Marked(b, start+W(i)) || Prefix(b, start+W(i), cap) != 0 {
				t.Fatal(width, start, i)
			}
		}
	})
}

// P17.1: at first nothing from Start on is marked.
func TestAtFirst(t *testing.T) {
	firsts[uint32](t, 32)
	firsts[uint64](t, 64)
}

func publishes[W api.Word](t *testing.T, width int) {
	each(width, func(b *board.Board[W], start W) {
		cap := b.Layout().Conf.Cap
		r := atFirst(cap, start)
		from := start
		for _, n := range []int{1, 2, cap, 1, cap, cap - 1} {
			f, want := frame(0, n, from, 8), frame(0, n, from, 8)
			for i := range n {
				a, left := access(b, i-1, from+W(i), true), cells(b)
				done := Publish(b, i-1, &f)
				r.put(from + W(i))
				left[a.Cell] = a.New
				want.I = (i + 1) % n
				if done != (i == n-1) || !reflect.DeepEqual(f, want) || b.Log()[b.Len()-1] != a || !slices.Equal(cells(b), left) {
					t.Fatal(width, n, i, done, f, want, a)
				}
				agree(t, b, r, from+W(i))
			}
			from += W(n)
		}
		if want := int(from - start); b.Len() != want {
			t.Fatal(b.Len(), want)
		}
	})
}

// P17.2, P17.3: step by step: one mark is laid, to its round, and nothing else changes.
func TestPublish(t *testing.T) {
	publishes[uint32](t, 32)
	publishes[uint64](t, 64)
}

func publishNothing[W api.Word](t *testing.T, width int) {
	for _, v := range having() {
		b := boardOf[W](width, v, 4, 1<<32-1)
		for _, n := range []int{0, -1, math.MinInt, 1, 3, 4} {
			for _, i := range []int{-1, -4, math.MinInt, max(n, 0), max(n, 0) + 1, math.MaxInt} {
				f := frame[W](i, n, 6, 8)
				if !Publish(b, 0, &f) || !reflect.DeepEqual(f, frame[W](0, n, 6, 8)) || b.Len() != 0 {
					t.Error(v, n, i, f, b.Log())
				}
			}
		}
	}
}

// P17.2: an I that is not from 0 to below N: it is 0, without an access.
func TestPublishNothing(t *testing.T) {
	publishNothing[uint32](t, 32)
	publishNothing[uint64](t, 64)
}

func publishMiddle[W api.Word](t *testing.T, width int) {
	for _, v := range having() {
		for _, c := range []struct {
			i, n, next int
			done       bool
		}{
			{1, 2, 0, true}, {1, 3, 2, false}, {3, 4, 0, true}, {4, 6, 5, false}, {9, math.MaxInt, 10, false},
			{math.MaxInt - 1, math.MaxInt, 0, true}, {math.MaxInt - 2, math.MaxInt, math.MaxInt - 1, false},
		} {
			b := boardOf[W](width, v, 4, 3)
			from := ^W(0) - 1
			f := frame(c.i, c.n, from, 8)
			pos := from + W(c.i)
			a := access(b, 7, pos, true)
			if Publish(b, 7, &f) != c.done || !reflect.DeepEqual(f, frame(c.next, c.n, from, 8)) || !slices.Equal(b.Log(), []api.Access{a}) || !Marked(b, pos) {
				t.Error(v, c, f, b.Log(), a)
			}
		}
	}
}

// P17.2, P1: whoever goes on in the middle, and with sizes that no ring has.
func TestPublishMiddle(t *testing.T) {
	publishMiddle[uint32](t, 32)
	publishMiddle[uint64](t, 64)
}

func seeks[W api.Word](t *testing.T, width int) {
	each(width, func(b *board.Board[W], start W) {
		cap := b.Layout().Conf.Cap
		for many := range min(cap, 5) + 1 {
			n := many * cap / min(cap, 5)
			f := frame(0, n, start, 8)
			for !Publish(b, 0, &f) {
			}
			f = frame(6, 1, 2, start)
			for i := range n + 1 {
				a, left := access(b, 5, start+W(i), false), cells(b)
				done, want := Seek(b, 5, &f), frame(6, 1, 2, start+W(min(i+1, n)))
				if done != (i == n) || !reflect.DeepEqual(f, want) || b.Log()[b.Len()-1] != a || !slices.Equal(cells(b), left) {
					t.Fatal(width, start, n, i, done, f, a)
				}
			}
			if length := b.Len(); Prefix(b, start, cap) != n || Marked(b, f.Val) || b.Len() != length {
				t.Fatal(n, Prefix(b, start, cap), f)
			}
		}
	})
}

// P17.2, P17.3: step by step: one mark is looked at, up to the first one that is not its position's.
func TestSeek(t *testing.T) {
	seeks[uint32](t, 32)
	seeks[uint64](t, 64)
}

// P17.2: done, it looks again when it is called again, and goes on where something was published.
func TestSeekAgain(t *testing.T) {
	for _, v := range having() {
		b := boardOf[uint32](32, v, 2, 1<<32-1)
		f := api.Frame[uint32]{Val: 1<<32 - 1}
		if !Seek(b, 1, &f) || !Seek(b, 1, &f) || f.Val != 1<<32-1 || b.Len() != 2 {
			t.Error(v, f, b.Log())
		}
		Publish(b, 0, &api.Frame[uint32]{From: 1<<32 - 1, N: 1})
		if Seek(b, 1, &f) || f.Val != 0 {
			t.Error(v, f)
		}
		Publish(b, 0, &api.Frame[uint32]{From: 0, N: 1})
		if Seek(b, 1, &f) || f.Val != 1 || !Seek(b, 1, &f) || f.Val != 1 {
			t.Error(v, f)
		}
	}
}

func prefixes[W api.Word](t *testing.T, width int) {
	for _, v := range having() {
		b := boardOf[W](width, v, 8, 1<<64-3)
		from := ^W(0) - 2
		for _, i := range []W{0, 1, 2, 4, 5, 6, 7} { // the position 3 is left out
			Publish(b, 0, &api.Frame[W]{From: from + i, N: 1})
		}
		for _, c := range []struct {
			from       W
			most, want int
		}{
			{0, 0, 0}, {0, -1, 0}, {0, math.MinInt, 0}, {0, 1, 1}, {0, 2, 2}, {0, 3, 3}, {0, 4, 3}, {0, math.MaxInt, 3},
			{2, 8, 1}, {3, 8, 0}, {4, 8, 4}, {4, 3, 3}, {7, 8, 1}, {8, 8, 0}, {^W(0), 8, 0},
		} {
			if got := Prefix(b, from+c.from, c.most); got != c.want {
				t.Error(v, c, got)
			}
		}
		Publish(b, 0, &api.Frame[W]{From: from + 3, N: 1})
		for most, want := range map[int]int{7: 7, 8: 8, 9: 8, math.MaxInt: 8} {
			if got := Prefix(b, from, most); got != want {
				t.Error(v, most, got)
			}
		}
		if b.Len() != 8 {
			t.Error(b.Log())
		}
	}
}

// P17.1: a hole ends it, and so do most, and the capacity.
func TestPrefix(t *testing.T) {
	prefixes[uint32](t, 32)
	prefixes[uint64](t, 64)
}

func none[W api.Word](t *testing.T, width int) {
	boards := []*board.Board[W]{nil}
	for _, v := range lacking() {
		b := boardOf[W](width, v, 4, 9)
		for cell := range b.Layout().Cells { // whatever stands there: neither a cursor nor stamps are marks
			b.Store(0, cell, 2)
		}
		boards = append(boards, b)
	}
	for _, b := range boards {
		n, had := b.Len(), cells(b)
		for _, i := range []int{-1, 0, 1, 5} {
			f := frame[W](i, 3, 9, 9)
			if !Publish(b, 0, &f) || !reflect.DeepEqual(f, frame[W](i, 3, 9, 9)) || !Seek(b, 0, &f) || !reflect.DeepEqual(f, frame[W](i, 3, 9, 9)) {
				t.Error(i, f)
			}
		}
		for pos := W(0); pos < 20; pos++ {
			if Marked(b, pos) || Prefix(b, pos, 4) != 0 || Prefix(b, pos, math.MaxInt) != 0 {
				t.Error(pos)
			}
		}
		if !Publish(b, 0, nil) || !Seek(b, 0, nil) || b.Len() != n || !slices.Equal(cells(b), had) {
			t.Error(b.Log())
		}
	}
	for _, v := range having() {
		b := boardOf[W](width, v, 4, 9)
		if !Publish(b, 0, nil) || !Seek(b, 0, nil) || b.Len() != 0 {
			t.Error(v, "no registers", b.Log())
		}
	}
}

// P17.1, P17.2, P1: no board, none with marks, no registers: done, and nothing is done.
func TestNone(t *testing.T) {
	none[uint32](t, 32)
	none[uint64](t, 64)
}

// long publishes and seeks by turns, so that no two positions a lap apart wait to be published.
func long[W api.Word](t *testing.T, width int) {
	r := rand.New(rand.NewSource(17))
	each(width, func(b *board.Board[W], start W) {
		cap := b.Layout().Conf.Cap
		ring, seeker := atFirst(cap, start), api.Frame[W]{Val: start}
		claim := start            // up to here it is claimed
		var waits []*api.Frame[W] // what is claimed, and not published yet
		for range 200 {
			if room := cap - int(claim-seeker.Val); room > 0 && len(waits) < 3 {
				waits = append(waits, &api.Frame[W]{From: claim, N: 1 + r.Intn(room)})
				claim += W(waits[len(waits)-1].N)
			}
			i := r.Intn(len(waits) + 1)
			if i == len(waits) {
				first := seeker.Val + W(ring.prefix(seeker.Val, cap))
				for !Seek(b, 9, &seeker) {
				}
				if seeker.Val != first {
					t.Fatal(width, seeker, first, ring)
				}
				continue
			}
			f := waits[i]
			ring.put(f.From + W(f.I))
			if Publish(b, i, f) {
				waits = slices.Delete(waits, i, i+1)
			}
			agree(t, b, ring, claim)
		}
	})
}

// P17.3, P17.4: long runs: what is published is marked till its slot is published anew, and sought up to the first that isn't.
func TestLong(t *testing.T) {
	long[uint32](t, 32)
	long[uint64](t, 64)
}

// The chapter's example.
func TestExample(t *testing.T) {
	b := boardOf[uint32](32, api.Cas, 4, 0)
	for pos := range uint32(4) {
		if Marked(b, pos) {
			t.Error(pos)
		}
	}
	f := api.Frame[uint32]{N: 2}
	if Publish(b, 0, &f) || !Publish(b, 0, &f) || Prefix(b, 0, 4) != 2 {
		t.Error(f)
	}
	for _, a := range b.Log() {
		if a.Kind != api.Store || b.Len() != 2 {
			t.Error(b.Log())
		}
	}
}
