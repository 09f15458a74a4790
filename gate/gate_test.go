package gate

import (
	"math"
	"math/big"
	"math/rand"
	"slices"
	"testing"

	"sakia/api"
	"sakia/board"
	"sakia/layout"
)

func graphs() [][][]int {
	return [][][]int{{nil}, {nil, {0}}, {{1}, nil}, {nil, {0}, {0}, {2, 1}}, {{3}, {0, 3}, {}, {2}}, {{5, 1}, nil, {4}, {2, 0}, {5}, nil}, make([][]int, 6)}
}

// layoutOf is a layout of a variant with four slots and one producer.
func layoutOf(variant, width int, start uint64, up [][]int) layout.Layout {
	l, _ := layout.Of(api.Conf{Variant: variant, Width: width, Cap: 4, Producers: 1, Start: start, Up: up})
	return l
}

// some is a layout with a lock and six consumers.
func some(width int, start uint64) layout.Layout {
	return layoutOf(api.Lock, width, start, make([][]int, 6))
}

// P16.1: the gates of those that nobody stands behind, and of those ahead of a consumer, as their list has them.
func TestEndsUps(t *testing.T) {
	for variant := 1; variant <= 5; variant++ {
		for _, up := range graphs() {
			l := layoutOf(variant, 32, 7, up)
			var ends []int
			for c := range up {
				if !slices.ContainsFunc(up, func(ahead []int) bool { return slices.Contains(ahead, c) }) {
					cell, _ := l.Find("gate" + string(rune('0'+c)))
					ends = append(ends, cell)
				}
			}
			if got := Ends(l); !slices.Equal(got, ends) || !slices.IsSorted(got) || len(got) == 0 {
				t.Error(up, got, ends)
			}
			for c := range up {
				var ups []int
				for _, a := range up[c] {
					cell, _ := l.Find("gate" + string(rune('0'+a)))
					ups = append(ups, cell)
				}
				if got := Ups(l, c); !slices.Equal(got, ups) {
					t.Error(up, c, got, ups)
				}
			}
		}
	}
}

// P16.1, P1: nothing of a layout that no call made, or a consumer that there is not.
func TestEndsUpsNone(t *testing.T) {
	if len(Ends(layout.Layout{})) != 0 {
		t.Error(Ends(layout.Layout{}))
	}
	for _, c := range []int{-1, 0, 1, 6, math.MinInt, math.MaxInt} {
		if len(Ups(layout.Layout{}, c)) != 0 {
			t.Error(c)
		}
	}
	l := layoutOf(api.Cas, 32, 0, [][]int{nil, {0}, {1, 0}})
	for _, c := range []int{-1, -2, 3, 4, math.MinInt, math.MaxInt} {
		if len(Ups(l, c)) != 0 {
			t.Error(c, Ups(l, c))
		}
	}
}

// P16.1: the answers are nobody else's.
func TestUpsAreNew(t *testing.T) {
	l := layoutOf(api.Cas, 32, 0, [][]int{nil, {0}, {1, 0}})
	ups, ends := Ups(l, 2), Ends(l)
	ups[0], ends[0] = 9, 9
	if !slices.Equal(Ups(l, 2), []int{1, 0}) || !slices.Equal(Ends(l), []int{2}) || !slices.Equal(l.Conf.Up[2], []int{1, 0}) {
		t.Error(Ups(l, 2), Ends(l), l.Conf.Up)
	}
}

// lead is by how much a counter leads another one, reckoned with numbers that don't go round.
func lead(width int, a, b uint64) *big.Int {
	d := new(big.Int).Sub(new(big.Int).SetUint64(a), new(big.Int).SetUint64(b))
	return round(width, d)
}

// round is a number modulo 2^width, from -2^(width-1) on.
func round(width int, d *big.Int) *big.Int {
	turn := new(big.Int).Lsh(big.NewInt(1), uint(width))
	d.Mod(d, turn)
	if d.Cmp(new(big.Int).Lsh(big.NewInt(1), uint(width-1))) >= 0 {
		d.Sub(d, turn)
	}
	return d
}

// found is what a scan is to find, of what the cells tell.
func found(width int, values []uint64) uint64 {
	var least uint64
	for i, v := range values {
		if i == 0 || lead(width, v, least).Sign() < 0 {
			least = v
		}
	}
	return least
}

// frame is registers of which each has something.
func frame[W api.Word](i int) api.Frame[W] {
	return api.Frame[W]{Op: 1, N: 2, Phase: 3, Pc: 4, I: i, J: 5, From: 6, Min: 7, Val: 8, Own: 9, Data: []int{10}}
}

func sameFrame[W api.Word](a, b api.Frame[W]) bool {
	return a.Op == b.Op && a.N == b.N && a.Phase == b.Phase && a.Pc == b.Pc && a.I == b.I && a.J == b.J &&
		a.From == b.From && a.Min == b.Min && a.Val == b.Val && a.Own == b.Own && slices.Equal(a.Data, b.Data)
}

// fill gives gates counters near each other, and now and then far apart.
func fill[W api.Word](r *rand.Rand, b *board.Board[W]) {
	l := b.Layout()
	near := W(l.Conf.Start)
	for c := range l.Conf.Up {
		v := near + W(r.Intn(9)) - 4
		if r.Intn(9) == 0 {
			v = W(r.Uint64())
		}
		b.Store(9, l.Gate(c), v)
	}
}

// scans goes through lists of gates, step by step.
func scans[W api.Word](t *testing.T, width int) {
	r := rand.New(rand.NewSource(16))
	for _, start := range []uint64{0, 1<<32 - 2, 1<<64 - 2, 1 << 31} {
		for range 60 {
			b := board.New[W](some(width, start))
			fill(r, b)
			cells := make([]int, 1+r.Intn(8))
			var values []uint64
			for i := range cells {
				cells[i] = r.Intn(6)
				values = append(values, b.Peek(cells[i]))
			}
			kept := slices.Clone(cells)
			if got, n := Least(b, cells), b.Len(); uint64(got) != found(width, values) || n != 6 {
				t.Fatal(width, values, got, n)
			}
			f, want := frame[W](0), frame[W](0)
			for i, cell := range cells {
				done := Scan(b, 3, cells, &f)
				want.I, want.Min = (i+1)%len(cells), W(found(width, values[:i+1]))
				if done != (i == len(cells)-1) || !sameFrame(f, want) || b.Len() != 7+i {
					t.Fatal(width, values, i, done, f, want)
				}
				if a := b.Log()[6+i]; a != (api.Access{Thread: 3, Kind: api.Load, Cell: cell, Old: values[i], New: values[i]}) {
					t.Fatal(a)
				}
			}
			if !slices.Equal(cells, kept) {
				t.Fatal("changed", cells, kept)
			}
		}
	}
}

// P16.1, P16.2: a scan loads cell by cell, and finds what Least tells without an access.
func TestScan(t *testing.T) {
	scans[uint32](t, 32)
	scans[uint64](t, 64)
}

// P16.2: a second scan begins anew, whatever the first one found.
func TestScanAgain(t *testing.T) {
	b := board.New[uint32](some(32, 0))
	f := api.Frame[uint32]{}
	for range 2 {
		for !Scan(b, 0, []int{0, 1}, &f) {
		}
		if f.Min != uint32(b.Peek(0)) || f.I != 0 {
			t.Error(f)
		}
		b.Store(0, 0, 5)
		b.Store(0, 1, 6)
	}
}

// P16.2: whoever goes on in the middle takes what Min is as found.
func TestScanMiddle(t *testing.T) {
	b := board.New[uint32](some(32, 10))
	for _, c := range []struct{ min, want uint32 }{{9, 9}, {10, 10}, {11, 10}, {1<<32 - 5, 1<<32 - 5}, {10 + 1<<31 - 1, 10}} {
		f, want := frame[uint32](1), frame[uint32](2)
		f.Min, want.Min = c.min, c.want
		if Scan(b, 0, []int{0, 1, 2}, &f) || !sameFrame(f, want) {
			t.Error(c, f)
		}
	}
}

// scanNone asks where there is nothing to look at.
func scanNone[W api.Word](t *testing.T, width int) {
	b := board.New[W](some(width, 3))
	for _, cells := range [][]int{nil, {}, {0}, {0, 1, 2}} {
		for _, i := range []int{-1, -2, math.MinInt, len(cells), len(cells) + 1, math.MaxInt} {
			f := frame[W](i)
			if !Scan(b, 0, cells, &f) || !sameFrame(f, frame[W](0)) || b.Len() != 0 {
				t.Error(cells, i, f, b.Log())
			}
		}
		for _, i := range []int{-1, 0, 1, 2, 5} {
			f := frame[W](i)
			if !Scan(nil, 0, cells, &f) || !sameFrame(f, frame[W](i)) {
				t.Error("no board", cells, i, f)
			}
			if !Scan(b, 0, cells, nil) || b.Len() != 0 {
				t.Error("no registers", cells)
			}
		}
	}
	if !Scan[W](nil, 0, nil, nil) {
		t.Error("nothing")
	}
	if Least(b, nil) != 0 || Least(b, []int{}) != 0 || Least[W](nil, []int{0, 1}) != 0 || Least[W](nil, nil) != 0 {
		t.Error("least")
	}
}

// P16.1, P16.2, P1: no cell at the place, no board, no registers.
func TestScanNone(t *testing.T) {
	scanNone[uint32](t, 32)
	scanNone[uint64](t, 64)
}

// P16.1, P16.2, P1: cells that can't be loaded tell 0, as the board has it, and make no access; Least finds the same.
func TestScanOther(t *testing.T) {
	for _, start := range []uint64{5, 1<<64 - 5} {
		l := some(64, start)
		b := board.New[uint64](l)
		b.Set(0, 1, 1<<62)
		b.Write(0, l.Next, start-9)
		for _, other := range []int{-1, l.Cells, math.MinInt, math.MaxInt, l.Next, l.Mark(0), l.Slot(1)} {
			for _, cells := range [][]int{{other}, {0, other}, {other, 0}, {0, other, 1}} {
				before, f := b.Len(), api.Frame[uint64]{}
				steps := 1
				for !Scan(b, 1, cells, &f) {
					steps++
				}
				values := make([]uint64, len(cells))
				gates := 0
				for i, cell := range cells {
					if cell == 0 || cell == 1 {
						values[i] = start
						gates++
					}
				}
				if steps != len(cells) || b.Len() != before+gates || f.Min != found(64, values) {
					t.Error(start, cells, steps, f, b.Len()-before)
				}
				if n := b.Len(); Least(b, cells) != f.Min || b.Len() != n {
					t.Error(start, cells, Least(b, cells), f)
				}
			}
		}
	}
}

// edges are counters of a width about the places where it turns.
func edges[W api.Word](width int) []W {
	var out []W
	for _, at := range []uint64{0, 1 << (width - 2), 1 << (width - 1), 3 << (width - 2)} {
		for d := range 9 {
			out = append(out, W(at+uint64(d)-4))
		}
	}
	return out
}

// sizes are ints, small ones and those at the ends.
func sizes(width int) []int {
	out := []int{math.MinInt, math.MinInt + 1, math.MaxInt - 1, math.MaxInt, 64, 1 << 30}
	for _, at := range []int{0, 1 << (width - 2), -1 << (width - 1), 1<<(width-1) - 1} {
		out = append(out, at-2, at-1, at, at+1, at+2)
	}
	return append(out, 3, 4, 5, -3, -4)
}

// reckon asks of room at all edges.
func reckon[W api.Word](t *testing.T, width int) {
	for _, next := range edges[W](width) {
		for _, least := range edges[W](width) {
			far := lead(width, uint64(next), uint64(least))
			for _, cap := range sizes(width) {
				space := new(big.Int).Sub(big.NewInt(int64(cap)), far)
				if space.Cmp(big.NewInt(int64(cap))) > 0 {
					space.SetInt64(int64(cap))
				}
				if space.Sign() < 0 {
					space.SetInt64(0)
				}
				if got := Space(cap, next, least); int64(got) != space.Int64() {
					t.Fatal("space", width, cap, next, least, got, space)
				}
				for _, n := range []int{0, 1, 2, 4, 64, -1, -5, math.MinInt, math.MaxInt} {
					end := round(width, new(big.Int).Add(far, big.NewInt(int64(n))))
					if got := Fits(cap, next, n, least); got != (end.Cmp(big.NewInt(int64(cap))) <= 0) {
						t.Fatal("fits", width, cap, next, n, least, got, end)
					}
				}
			}
		}
	}
}

// P16.3: whatever counters and numbers they are, leads are reckoned as the chapter says.
func TestRoom(t *testing.T) {
	reckon[uint32](t, 32)
	reckon[uint64](t, 64)
}

// P16.3: as much as there is space for fits, and no more.
func TestSpaceFits(t *testing.T) {
	for _, least := range []uint32{0, 1, 1<<32 - 1, 1<<32 - 3, 1 << 31} {
		for used := range 9 {
			next := least + uint32(used)
			for n := range 10 {
				if Fits(8, next, n, least) != (n <= Space(8, next, least)) {
					t.Error(least, used, n)
				}
			}
		}
	}
}

// goOn moves gates on between the steps of scans.
func goOn[W api.Word](t *testing.T, width int) {
	r := rand.New(rand.NewSource(164))
	between := 0
	for i := range 400 {
		start := []uint64{0, 1<<32 - 6, 1<<64 - 6}[i%3]
		b := board.New[W](some(width, start))
		cells := r.Perm(6)[:1+r.Intn(6)]
		f := api.Frame[W]{}
		for range 5 {
			first := Least(b, cells)
			for done := false; !done; {
				for range r.Intn(4) {
					cell := r.Intn(6)
					b.Store(0, cell, W(b.Peek(cell))+W(r.Intn(3)))
				}
				done = Scan(b, 1, cells, &f)
			}
			last := Least(b, cells)
			if lead(width, uint64(f.Min), uint64(first)).Sign() < 0 || lead(width, uint64(last), uint64(f.Min)).Sign() < 0 {
				t.Fatal(width, first, f.Min, last)
			}
			if f.Min != first && f.Min != last {
				between++
			}
		}
	}
	if between == 0 {
		t.Error("no scan found anything between")
	}
}

// P16.4: gates that go on while they are scanned.
func TestGatesGoOn(t *testing.T) {
	goOn[uint32](t, 32)
	goOn[uint64](t, 64)
}

// The chapter's example.
func TestExample(t *testing.T) {
	if !Fits(4, uint32(0), 2, 1<<32-2) || Fits(4, uint32(0), 3, 1<<32-2) || Space(4, uint32(0), 1<<32-2) != 2 {
		t.Error("room")
	}
}
