package turn

import (
	"math"
	"math/rand"
	"reflect"
	"slices"
	"testing"

	"sakia/api"
	"sakia/board"
	"sakia/layout"
)

// boardOf is a board with three consumers.
func boardOf[W api.Word](width, variant int) *board.Board[W] {
	l, _ := layout.Of(api.Conf{Variant: variant, Width: width, Cap: 4, Producers: 1, Start: 7, Up: [][]int{nil, {0}, {1}}})
	return board.New[W](l)
}

// at is a board with a lock, whose ticket and serving are as given.
func at[W api.Word](width int, ticket, serving W) *board.Board[W] {
	b := boardOf[W](width, api.Lock)
	b.Store(-1, b.Layout().Ticket, ticket)
	b.Store(-1, b.Layout().Serving, serving)
	return b
}

// frame is registers of which each has something.
func frame[W api.Word](pc int, own W) api.Frame[W] {
	return api.Frame[W]{Op: 1, N: 2, Phase: 3, Pc: pc, I: 4, J: 5, From: 6, Min: 7, Val: 8, Own: own, Data: []int{10}}
}

// cells is what all cells have.
func cells[W api.Word](b *board.Board[W]) []uint64 {
	var out []uint64
	for cell := range b.Layout().Cells {
		out = append(out, b.Peek(cell))
	}
	return out
}

// counters are some about the places where those of a width go round.
func counters[W api.Word]() []W {
	half := ^W(0) >> 1
	return []W{0, 1, 5, half - 1, half, half + 1, ^W(0) - 1, ^W(0)}
}

// P18.1: a lock is what the variant Lock has.
func TestHas(t *testing.T) {
	for v := 1; v <= 5; v++ {
		if Has(boardOf[uint32](32, v)) != (v == api.Lock) || Has(boardOf[uint64](64, v)) != (v == api.Lock) {
			t.Error(v)
		}
	}
	if Has[uint32](nil) || Has[uint64](nil) {
		t.Error("nil")
	}
}

func takes[W api.Word](t *testing.T, width int) {
	for _, ticket := range counters[W]() {
		b := at(width, ticket, ticket)
		l, left, f := b.Layout(), cells(b), frame[W](0, 3)
		left[l.Ticket] = uint64(ticket + 1)
		a := api.Access{Thread: 6, Kind: api.Add, Cell: l.Ticket, Old: uint64(ticket), New: uint64(ticket + 1)}
		if Enter(b, 6, &f) || !reflect.DeepEqual(f, frame(1, ticket)) || b.Log()[2] != a || !slices.Equal(cells(b), left) {
			t.Error(width, ticket, f, b.Log())
		}
	}
}

// P18.1: with Pc 0 a ticket is taken, and it is not done, though nobody else is there.
func TestTakes(t *testing.T) {
	takes[uint32](t, 32)
	takes[uint64](t, 64)
}

func looks[W api.Word](t *testing.T, width int) {
	for _, serving := range counters[W]() {
		for _, own := range counters[W]() {
			for _, pc := range []int{1, 2, 3, -1, math.MinInt, math.MaxInt} {
				b := at(width, serving+2, serving)
				left, f, want := cells(b), frame(pc, own), frame(pc, own)
				if own == serving {
					want.Pc = 2
				}
				done := Enter(b, 6, &f)
				a := api.Access{Thread: 6, Kind: api.Load, Cell: b.Layout().Serving, Old: uint64(serving), New: uint64(serving)}
				if done != (own == serving) || !reflect.DeepEqual(f, want) || b.Log()[2] != a || b.Len() != 3 || !slices.Equal(cells(b), left) {
					t.Error(width, serving, own, pc, f, b.Log())
				}
			}
		}
	}
}

// P18.1: with any other Pc the serving is looked at: it is to be just the ticket.
func TestLooks(t *testing.T) {
	looks[uint32](t, 32)
	looks[uint64](t, 64)
}

func leaves[W api.Word](t *testing.T, width int) {
	for _, serving := range counters[W]() {
		b := at(width, serving, serving)
		l, left := b.Layout(), cells(b)
		left[l.Serving] = uint64(serving + 1)
		Leave(b, 4)
		a := api.Access{Thread: 4, Kind: api.Add, Cell: l.Serving, Old: uint64(serving), New: uint64(serving + 1)}
		if b.Log()[2] != a || b.Len() != 3 || !slices.Equal(cells(b), left) {
			t.Error(width, serving, b.Log())
		}
	}
}

// P18.1: Leave serves the next one, whoever it is that leaves.
func TestLeave(t *testing.T) {
	leaves[uint32](t, 32)
	leaves[uint64](t, 64)
}

func waitings[W api.Word](t *testing.T, width int) {
	for _, serving := range counters[W]() {
		for _, lead := range []int{0, 1, 3, 10, -1, -2, 1<<(width-1) - 1, -1 << (width - 1)} {
			b := at(width, serving+W(lead), serving)
			if Waiting(b) != lead || b.Len() != 2 {
				t.Error(width, serving, lead, Waiting(b), b.Log())
			}
		}
	}
}

// P18.1: how many are inside or wait, without an access; a lead, wherever the counters go round.
func TestWaiting(t *testing.T) {
	waitings[uint32](t, 32)
	waitings[uint64](t, 64)
}

func none[W api.Word](t *testing.T, width int) {
	boards := []*board.Board[W]{nil}
	for _, v := range []int{api.One, api.Cas, api.Faa, api.Stamp} {
		b := boardOf[W](width, v)
		for cell := range b.Layout().Cells {
			b.Store(0, cell, W(cell+1))
		}
		boards = append(boards, b)
	}
	for _, b := range boards {
		n, had := b.Len(), cells(b)
		for _, pc := range []int{0, 1, 2, -1} {
			f := frame[W](pc, 0)
			if !Enter(b, 0, &f) || !reflect.DeepEqual(f, frame[W](pc, 0)) {
				t.Error(pc, f)
			}
		}
		Leave(b, 0)
		if !Enter(b, 0, nil) || Waiting(b) != 0 || b.Len() != n || !slices.Equal(cells(b), had) {
			t.Error(b.Log(), Waiting(b))
		}
	}
	if b := boardOf[W](width, api.Lock); !Enter(b, 0, nil) || b.Len() != 0 {
		t.Error("no registers", b.Log())
	}
}

// P18.1, P1: no board, none with a lock, no registers: done, and nothing is done.
func TestNone(t *testing.T) {
	none[uint32](t, 32)
	none[uint64](t, 64)
}

// crowd is threads at a lock, and who has which ticket.
type crowd[W api.Word] struct {
	b      *board.Board[W]
	frames []api.Frame[W]
	line   []int // those that have a ticket, the first one to be served in front
	in     bool  // is the front inside?
	turns  int   // how many have left
}

// place is where in the line a thread stands, -1, if it has no ticket.
func (c *crowd[W]) place(thread int) int { return slices.Index(c.line, thread) }

// step is one step of a thread: it leaves, if it is inside.
func (c *crowd[W]) step(t *testing.T, thread int) {
	f, had := &c.frames[thread], c.place(thread)
	if c.in && had == 0 {
		Leave(c.b, thread)
		*f, c.line, c.in = api.Frame[W]{}, c.line[1:], false
		c.turns++
	} else {
		done := Enter(c.b, thread, f)
		if done != (had == 0) {
			t.Fatal(thread, had, done, c.line)
		}
		if had < 0 {
			c.line = append(c.line, thread)
		}
		c.in = c.in || done
	}
	if Waiting(c.b) != len(c.line) {
		t.Fatal(Waiting(c.b), c.line)
	}
}

func crowds[W api.Word](t *testing.T, width int) {
	r := rand.New(rand.NewSource(18))
	for many := 1; many <= api.MaxThreads; many++ {
		for _, first := range counters[W]() {
			c := &crowd[W]{b: at(width, first, first), frames: make([]api.Frame[W], many)}
			for i := range 300 {
				c.step(t, r.Intn(many))
				if c.b.Len() != i+3 {
					t.Fatal("accesses", c.b.Log())
				}
			}
			if many == 1 && c.turns != 100 || c.turns < 10 {
				t.Fatal(width, many, c.turns)
			}
		}
	}
}

// P18.2, P18.3: whoever steps when: just the one with the oldest ticket comes inside, and does so with its next step, once those ahead have left.
func TestCrowds(t *testing.T) {
	crowds[uint32](t, 32)
	crowds[uint64](t, 64)
}

func behind[W api.Word](t *testing.T, width int) {
	for k := range api.MaxThreads {
		c := &crowd[W]{b: at(width, ^W(0)-2, ^W(0)-2), frames: make([]api.Frame[W], k+1)}
		for thread := range k + 1 {
			c.step(t, thread)
		}
		for thread := range k {
			f := &c.frames[k]
			if Enter(c.b, k, f) || Enter(c.b, k, f) {
				t.Fatal(width, k, "inside ahead of", thread)
			}
			c.step(t, thread)
			c.step(t, thread)
		}
		if !Enter(c.b, k, &c.frames[k]) || c.frames[k].Pc != 2 {
			t.Fatal(width, k, c.frames[k])
		}
	}
}

// P18.3: behind k others one waits till these have left, and no longer.
func TestBehind(t *testing.T) {
	behind[uint32](t, 32)
	behind[uint64](t, 64)
}

// The chapter's example.
func TestExample(t *testing.T) {
	b := boardOf[uint32](32, api.Lock)
	var f, g api.Frame[uint32]
	if Enter(b, 0, &f) || Enter(b, 1, &g) || !Enter(b, 0, &f) || Enter(b, 1, &g) || Waiting(b) != 2 {
		t.Error(f, g, b.Log())
	}
	Leave(b, 0)
	if !Enter(b, 1, &g) || Waiting(b) != 1 {
		t.Error(g, b.Log())
	}
}
