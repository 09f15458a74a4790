package board

import (
	"math"
	"math/big"
	"math/rand"
	"slices"
	"testing"

	"sakia/api"
	"sakia/layout"
	"sakia/pair"
)

// starts are where counters begin: some go round soon.
func starts() []uint64 {
	return []uint64{0, 5, 1<<32 - 3, 1<<32 - 1, 1 << 32, 7<<32 + 9, 1<<64 - 1}
}

// layouts are some of a width, of all variants.
func layouts(t *testing.T, width int) []layout.Layout {
	var out []layout.Layout
	for variant := 1; variant <= 5; variant++ {
		for i, start := range starts() {
			up := [][][]int{{nil}, {nil, {0}}, {nil, nil, {1, 0}}}[i%3]
			l, e := layout.Of(api.Conf{Variant: variant, Width: width, Cap: 2 << (i % 3), Producers: 1, Start: start, Up: up})
			if e != api.OK {
				t.Fatal(e)
			}
			out = append(out, l)
		}
	}
	return out
}

// one is a layout of a variant with four slots, two consumers, and counters from 2^32 - 1 on.
func one(variant, width int) layout.Layout {
	l, _ := layout.Of(api.Conf{Variant: variant, Width: width, Cap: 4, Producers: 1, Start: 1<<32 - 1, Up: [][]int{nil, {0}}})
	return l
}

func sameUp(a, b [][]int) bool {
	return slices.EqualFunc(a, b, func(x, y []int) bool { return slices.Equal(x, y) })
}

func sameLayout(a, b layout.Layout) bool {
	c, d := a.Conf, b.Conf
	return c.Variant == d.Variant && c.Width == d.Width && c.Cap == d.Cap && c.Producers == d.Producers && c.Start == d.Start && sameUp(c.Up, d.Up) &&
		a.Cursor == b.Cursor && a.Claim == b.Claim && a.Ticket == b.Ticket && a.Serving == b.Serving && a.Next == b.Next &&
		a.Marks == b.Marks && a.Slots == b.Slots && a.Cells == b.Cells
}

// whole asks of a board just made.
func whole[W api.Word](t *testing.T, width int) {
	for _, l := range layouts(t, width) {
		b := New[W](l)
		if b == nil {
			t.Fatal(l)
		}
		for cell := range l.Cells {
			if b.Peek(cell) != l.First(cell) {
				t.Error(l, cell, b.Peek(cell))
			}
		}
		for slot := range l.Conf.Cap {
			if b.Data(slot) != 0 {
				t.Error(l, slot, b.Data(slot))
			}
		}
		if !sameLayout(b.Layout(), l) || b.Len() != 0 || len(b.Log()) != 0 || b.Cost(0) != 0 {
			t.Error(l, b.Layout(), b.Log())
		}
	}
}

// P12.1: cells have what they have at first, and no access is noted.
func TestNew(t *testing.T) {
	whole[uint32](t, 32)
	whole[uint64](t, 64)
}

// P12.1, P1: no board of a layout that no call made, nor of another width.
func TestNewWrong(t *testing.T) {
	for variant := 1; variant <= 5; variant++ {
		if New[uint64](one(variant, 32)) != nil || New[uint32](one(variant, 64)) != nil {
			t.Error(variant)
		}
	}
	if New[uint32](layout.Layout{}) != nil || New[uint64](layout.Layout{}) != nil {
		t.Error("zero")
	}
	if New[uint32](layout.Layout{Conf: one(api.Cas, 32).Conf}) != nil {
		t.Error("no cells")
	}
}

// P12.1: the layout is kept as a copy, and told as one.
func TestLayoutCopies(t *testing.T) {
	l := one(api.Lock, 32)
	b := New[uint32](l)
	l.Conf.Up[1][0] = 5
	want := one(api.Lock, 32)
	if !sameLayout(b.Layout(), want) {
		t.Error(b.Layout())
	}
	told := b.Layout()
	told.Conf.Up[1][0], told.Conf.Up[0] = 7, []int{1}
	if !sameLayout(b.Layout(), want) || l.Conf.Up[1][0] != 5 {
		t.Error(b.Layout(), l)
	}
}

// cellOf is some cell of each kind of a board with a lock.
func cellOf(l layout.Layout) map[int][]int {
	return map[int][]int{
		layout.Atomic: {l.Gate(0), l.Gate(1), l.Ticket, l.Serving},
		layout.Plain:  {l.Next, l.Mark(0), l.Mark(3)},
		layout.Data:   {l.Slot(0), l.Slot(3)},
		layout.None:   {-1, -2, math.MinInt, l.Cells, l.Cells + 1, math.MaxInt},
	}
}

// last is the access noted last.
func last[W api.Word](b *Board[W]) api.Access {
	log := b.Log()
	return log[len(log)-1]
}

// atomics asks all atomic accesses of a cell, one by one.
func atomics[W api.Word](t *testing.T, b *Board[W], thread, cell int) {
	top := ^W(0)
	b.Store(thread, cell, top)
	if a := last(b); a.New != uint64(top) || a.Kind != api.Store || a.Thread != thread || a.Cell != cell {
		t.Error(a)
	}
	if v := b.Load(thread, cell); v != top || last(b) != (api.Access{Thread: thread, Kind: api.Load, Cell: cell, Old: uint64(top), New: uint64(top)}) {
		t.Error(v, last(b))
	}
	if v := b.Add(thread, cell, 3); v != top || last(b) != (api.Access{Thread: thread, Kind: api.Add, Cell: cell, Old: uint64(top), New: 2}) {
		t.Error(v, last(b))
	}
	if v := b.Add(thread, cell, -4); v != 2 || last(b) != (api.Access{Thread: thread, Kind: api.Add, Cell: cell, Old: 2, New: uint64(top - 1)}) {
		t.Error(v, last(b))
	}
	if b.Swap(thread, cell, top, 8) || last(b) != (api.Access{Thread: thread, Kind: api.Miss, Cell: cell, Old: uint64(top - 1), New: uint64(top - 1)}) {
		t.Error(last(b))
	}
	if !b.Swap(thread, cell, top-1, 8) || last(b) != (api.Access{Thread: thread, Kind: api.Swap, Cell: cell, Old: uint64(top - 1), New: 8}) {
		t.Error(last(b))
	}
	if !b.Swap(thread, cell, 8, 8) || last(b) != (api.Access{Thread: thread, Kind: api.Swap, Cell: cell, Old: 8, New: 8}) || b.Peek(cell) != 8 {
		t.Error(last(b))
	}
}

// plains asks a plain cell.
func plains[W api.Word](t *testing.T, b *Board[W], thread, cell int) {
	old := b.Peek(cell)
	if v := b.Read(thread, cell); uint64(v) != old || last(b) != (api.Access{Thread: thread, Kind: api.Read, Cell: cell, Old: old, New: old}) {
		t.Error(v, last(b))
	}
	b.Write(thread, cell, ^W(0)-1)
	if last(b) != (api.Access{Thread: thread, Kind: api.Write, Cell: cell, Old: old, New: uint64(^W(0) - 1)}) || b.Read(thread, cell) != ^W(0)-1 {
		t.Error(last(b))
	}
}

// data asks a slot.
func data[W api.Word](t *testing.T, b *Board[W], thread, slot int) {
	cell := b.Layout().Slot(slot)
	for _, v := range []int{-5, math.MaxInt, math.MinInt, 1 << 33, 0, 17} {
		old := b.Peek(cell)
		b.Set(thread, slot, v)
		if last(b) != (api.Access{Thread: thread, Kind: api.Write, Cell: cell, Old: old, New: uint64(v)}) {
			t.Error(last(b))
		}
		if b.Get(thread, slot) != v || last(b) != (api.Access{Thread: thread, Kind: api.Read, Cell: cell, Old: uint64(v), New: uint64(v)}) {
			t.Error(last(b))
		}
		if b.Data(slot) != v || b.Peek(cell) != uint64(v) {
			t.Error(b.Data(slot), b.Peek(cell))
		}
	}
}

func kinds[W api.Word](t *testing.T, width int) {
	l := one(api.Lock, width)
	for _, thread := range []int{0, 3, -1, math.MinInt, math.MaxInt} {
		b := New[W](l)
		for _, cell := range cellOf(l)[layout.Atomic] {
			atomics(t, b, thread, cell)
		}
		for _, cell := range cellOf(l)[layout.Plain] {
			plains(t, b, thread, cell)
		}
		for _, slot := range []int{0, 3} {
			data(t, b, thread, slot)
		}
		if n := 4*7 + 3*3 + 2*6*2; b.Len() != n || len(b.Log()) != n {
			t.Error(b.Len(), n)
		}
	}
}

// P12.2: each access is one of its kind, by whatever thread, and tells what the chapter says.
func TestAccesses(t *testing.T) {
	kinds[uint32](t, 32)
	kinds[uint64](t, 64)
}

// refused makes those accesses to a cell that are of another kind than it is.
func refused[W api.Word](t *testing.T, b *Board[W], cell, kind int) {
	had := b.Peek(cell)
	if kind != layout.Atomic {
		b.Store(0, cell, 9)
		if b.Load(0, cell) != 0 || b.Add(0, cell, 1) != 0 || b.Swap(0, cell, W(had), 9) || b.Swap(0, cell, 0, 9) || b.Swap(0, cell, 3, 9) {
			t.Error(cell, kind)
		}
	}
	if kind != layout.Plain {
		b.Write(0, cell, 9)
		if b.Read(0, cell) != 0 {
			t.Error(cell, kind)
		}
	}
	if b.Len() != 0 || b.Peek(cell) != had || b.Cost(0) != 0 {
		t.Error(cell, kind, b.Log())
	}
}

func others[W api.Word](t *testing.T, width int) {
	l := one(api.Lock, width)
	for kind, cells := range cellOf(l) {
		for _, cell := range cells {
			refused(t, New[W](l), cell, kind)
		}
	}
	full := New[W](l)
	full.Set(0, 1, 6)
	if full.Load(0, l.Slot(1)) != 0 || full.Read(0, l.Slot(1)) != 0 || full.Swap(0, l.Slot(1), 6, 7) || full.Len() != 1 || full.Data(1) != 6 {
		t.Error(full.Log())
	}
	b := New[W](l)
	for _, slot := range []int{-1, 4, 5, math.MinInt, math.MaxInt} {
		b.Set(0, slot, 3)
		if b.Get(0, slot) != 0 || b.Data(slot) != 0 || b.Len() != 0 {
			t.Error(slot, b.Log())
		}
	}
	for _, cell := range cellOf(l)[layout.None] {
		if b.Peek(cell) != 0 {
			t.Error(cell, b.Peek(cell))
		}
	}
}

// P12.2: of a cell that is of no such kind, or not there, nothing is done, and nothing noted.
func TestOtherKinds(t *testing.T) {
	others[uint32](t, 32)
	others[uint64](t, 64)
}

// P12.1: whoever peeks makes no access.
func TestPeekIsNone(t *testing.T) {
	l := one(api.Stamp, 64)
	b := New[uint64](l)
	b.Set(1, 2, 44)
	for range 3 {
		if b.Peek(l.Slot(2)) != 44 || b.Data(2) != 44 || b.Peek(l.Claim) != 1<<32-1 {
			t.Error(b.Log())
		}
	}
	if b.Len() != 1 || b.Cost(1) != pair.Of(0, 1) {
		t.Error(b.Log())
	}
}

// P12.3: the log is told anew each time.
func TestLogCopies(t *testing.T) {
	l := one(api.Cas, 32)
	b := New[uint32](l)
	b.Store(0, l.Claim, 5)
	first := b.Log()
	first[0].New = 77
	b.Load(1, l.Claim)
	if second := b.Log(); len(first) != 1 || len(second) != 2 || second[0].New != 5 || second[1].Kind != api.Load || b.Len() != 2 {
		t.Error(first, second)
	}
}

// P12.3: costs are counted by kinds, thread by thread.
func TestCost(t *testing.T) {
	l := one(api.Lock, 32)
	b := New[uint32](l)
	b.Load(0, l.Ticket)
	b.Load(0, l.Gate(0))
	b.Store(0, l.Ticket, 0)
	b.Add(1, l.Ticket, 0)
	b.Swap(1, l.Ticket, 0, 0)
	b.Swap(1, l.Ticket, 1, 0)
	b.Read(-2, l.Next)
	b.Get(-2, 0)
	b.Get(-2, 1)
	b.Write(-2, l.Next, b.Read(5, l.Next))
	b.Set(-2, 0, 0)
	b.Load(1, l.Next)
	for thread, want := range map[int]complex128{0: 2 + 1i, 1: 1 + 2i, -2: 3 + 2i, 5: 1, 2: 0, math.MinInt: 0, math.MaxInt: 0} {
		if b.Cost(thread) != want {
			t.Error(thread, b.Cost(thread), want)
		}
	}
}

func none[W api.Word](t *testing.T) {
	var b *Board[W]
	b.Store(0, 0, 1)
	b.Write(0, 0, 1)
	b.Set(0, 0, 1)
	if b.Load(0, 0) != 0 || b.Add(0, 0, 1) != 0 || b.Swap(0, 0, 0, 1) || b.Read(0, 0) != 0 || b.Get(0, 0) != 0 {
		t.Error("access")
	}
	if b.Peek(0) != 0 || b.Data(0) != 0 || b.Len() != 0 || len(b.Log()) != 0 || b.Cost(0) != 0 || !sameLayout(b.Layout(), layout.Layout{}) {
		t.Error("told")
	}
}

// P12.3, P1: nil tells nothing.
func TestNil(t *testing.T) {
	none[uint32](t)
	none[uint64](t)
}

// two boards of one layout have nothing in common.
func TestApart(t *testing.T) {
	l := one(api.Faa, 32)
	a, b := New[uint32](l), New[uint32](l)
	a.Add(0, l.Claim, 4)
	a.Set(0, 0, 9)
	if b.Peek(l.Claim) != 1<<32-1 || b.Data(0) != 0 || b.Len() != 0 {
		t.Error(b.Log())
	}
}

// sum is a + n modulo 2^width.
func sum(width int, a uint64, n int) uint64 {
	s := new(big.Int).Add(new(big.Int).SetUint64(a), big.NewInt(int64(n)))
	return s.Mod(s, new(big.Int).Lsh(big.NewInt(1), uint(width))).Uint64()
}

// few is a counter out of few, so that swaps come true too.
func few(r *rand.Rand, width int) uint64 {
	return sum(width, 0, r.Intn(6)-3)
}

// random makes some access, and tells what is to be noted of it, by what the cells have; ok is false, if nothing is.
func random[W api.Word](t *testing.T, r *rand.Rand, b *Board[W], l layout.Layout, has map[int]uint64) (api.Access, bool) {
	width := l.Conf.Width
	cell, thread, v, old := r.Intn(l.Cells+2)-1, r.Intn(5)-1, few(r, width), few(r, width)
	a := api.Access{Thread: thread, Kind: 1 + r.Intn(7), Cell: cell, Old: has[cell], New: has[cell]}
	kind := l.Kind(cell)
	var told uint64
	switch a.Kind {
	case api.Load:
		told = uint64(b.Load(thread, cell))
	case api.Store:
		b.Store(thread, cell, W(v))
		a.New = v
	case api.Add:
		n := []int{1, -1, 7, math.MaxInt, math.MinInt, 1 << 32}[r.Intn(6)]
		told = uint64(b.Add(thread, cell, n))
		a.New = sum(width, a.Old, n)
	case api.Swap, api.Miss:
		a.Kind = api.Miss
		fits := kind == layout.Atomic && a.Old == old
		if fits {
			a.Kind, a.New = api.Swap, v
		}
		if b.Swap(thread, cell, W(old), W(v)) != fits {
			t.Fatal(a)
		}
	case api.Read:
		told = uint64(b.Read(thread, cell))
	case api.Write:
		b.Write(thread, cell, W(v))
		a.New = v
	}
	plain := a.Kind == api.Read || a.Kind == api.Write
	ok := kind == layout.Atomic && !plain || kind == layout.Plain && plain
	telling := a.Kind == api.Load || a.Kind == api.Add || a.Kind == api.Read
	if ok && telling && told != a.Old || !(ok && telling) && told != 0 {
		t.Fatal(a, told)
	}
	return a, ok
}

func long[W api.Word](t *testing.T, width int) {
	r := rand.New(rand.NewSource(int64(width)))
	for _, l := range layouts(t, width) {
		b := New[W](l)
		has := map[int]uint64{}
		for cell := range l.Cells {
			has[cell] = l.First(cell)
		}
		var want []api.Access
		for range 600 {
			a, ok := random(t, r, b, l, has)
			if ok {
				want = append(want, a)
				has[a.Cell] = a.New
			}
			if v, slot := r.Int()-r.Int(), r.Intn(l.Conf.Cap); r.Intn(3) == 0 {
				cell := l.Slot(slot)
				b.Set(a.Thread, slot, v)
				want = append(want, api.Access{Thread: a.Thread, Kind: api.Write, Cell: cell, Old: has[cell], New: uint64(v)})
				has[cell] = uint64(v)
			}
		}
		if !slices.Equal(b.Log(), want) || b.Len() != len(want) {
			t.Error(l, b.Log(), want)
		}
		for cell := range l.Cells {
			if b.Peek(cell) != has[cell] {
				t.Error(l, cell, b.Peek(cell), has[cell])
			}
		}
		chained(t, b)
	}
}

// chained goes through a log: P12.4.
func chained[W api.Word](t *testing.T, b *Board[W]) {
	l := b.Layout()
	left := map[int]uint64{}
	costs := map[int]complex128{}
	for _, a := range b.Log() {
		had, ok := left[a.Cell]
		if !ok {
			had = l.First(a.Cell)
		}
		if a.Old != had {
			t.Fatal(a, had)
		}
		left[a.Cell] = a.New
		if slices.Contains([]int{api.Store, api.Add, api.Swap, api.Write}, a.Kind) {
			costs[a.Thread] += 1i
		} else {
			costs[a.Thread]++
		}
	}
	for thread := -2; thread < 6; thread++ {
		if b.Cost(thread) != costs[thread] {
			t.Error(thread, b.Cost(thread), costs[thread])
		}
	}
}

// P12.2, P12.3, P12.4: long runs of accesses, held against cells that are reckoned apart.
func TestLong(t *testing.T) {
	long[uint32](t, 32)
	long[uint64](t, 64)
}

// The chapter's example.
func TestExample(t *testing.T) {
	l := one(api.Cas, 32)
	b := New[uint32](l)
	if b.Add(0, l.Claim, 2) != 1<<32-1 || b.Peek(l.Claim) != 1 {
		t.Error(b.Log())
	}
}
