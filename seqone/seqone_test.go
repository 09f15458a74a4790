package seqone

import (
	"math"
	"math/rand"
	"reflect"
	"slices"
	"testing"

	"sakia/api"
	"sakia/board"
	"sakia/event"
	"sakia/layout"
)

// graphs have one end or several, at the first places and at the last ones.
func graphs() [][][]int {
	return [][][]int{{nil}, {nil, {0}}, {{1}, nil}, {nil, {0}, {0}}, {nil, {0}, {0}, {2, 1}}, {{2}, nil, {1}, {1}}, make([][]int, 6)}
}

// starts are positions about the places where counters of both widths go round.
func starts() []uint64 {
	return []uint64{0, 5, 1 << 31, 1<<32 - 3, 1<<63 - 2, 1<<64 - 5}
}

func confOf(variant, width, cap int, start uint64, up [][]int) api.Conf {
	return api.Conf{Variant: variant, Width: width, Cap: cap, Producers: 1, Start: start, Up: up}
}

// boardOf is the board of a configuration.
func boardOf[W api.Word](c api.Conf) *board.Board[W] {
	l, _ := layout.Of(c)
	return board.New[W](l)
}

// ends are the consumers of a graph that stand in nobody's list.
func ends(up [][]int) []int {
	var out []int
	for c := range up {
		if !slices.ContainsFunc(up, func(ahead []int) bool { return slices.Contains(ahead, c) }) {
			out = append(out, c)
		}
	}
	return out
}

// frame is registers as a call begins with them; those that are another layer's have something.
func frame[W api.Word](n int, from, val W) api.Frame[W] {
	return api.Frame[W]{Op: 1, N: n, Phase: 3, J: 5, From: from, Val: val, Own: 9, Data: []int{10}}
}

// rig is a sequencer, and what is to be true of it, in counts from the start on, which don't go round.
type rig[W api.Word] struct {
	t           *testing.T
	b           *board.Board[W]
	log         *event.Log
	s           *Seq[W]
	start       W
	cap         int
	up          [][]int
	ends        []int
	gates       []int
	next, known int
	published   int
}

func rigOf[W api.Word](t *testing.T, c api.Conf) *rig[W] {
	t.Helper()
	r := &rig[W]{t: t, b: boardOf[W](c), log: event.NewLog(), start: W(c.Start), cap: c.Cap, up: c.Up, ends: ends(c.Up), gates: make([]int, len(c.Up))}
	if r.s = New(r.b, r.log); r.s == nil {
		t.Fatal("no sequencer", c)
	}
	return r
}

// each goes through sequencers of a width.
func each[W api.Word](t *testing.T, width int, do func(r *rig[W])) {
	for _, cap := range []int{2, 4, 64} {
		for _, start := range starts() {
			for _, up := range graphs() {
				do(rigOf[W](t, confOf(api.One, width, cap, start, up)))
			}
		}
	}
}

// at is the position of a count.
func (r *rig[W]) at(count int) W { return r.start + W(count) }

// gate moves a consumer's gate on.
func (r *rig[W]) gate(c, count int) {
	r.gates[c] = count
	r.b.Store(9, c, r.at(count))
}

// slowest is the least count of the ends' gates.
func (r *rig[W]) slowest() int {
	least := r.gates[r.ends[0]]
	for _, c := range r.ends {
		least = min(least, r.gates[c])
	}
	return least
}

// cells is what all cells have.
func (r *rig[W]) cells() []uint64 {
	var out []uint64
	for cell := range r.b.Layout().Cells {
		out = append(out, r.b.Peek(cell))
	}
	return out
}

// claim is where a claim is to be, in counts.
type claim struct {
	n, from, min, i int
	scans           bool
}

// expect goes on with a claim by a step: the gate that is to be loaded (-1: none), and whether it is to be done.
func (r *rig[W]) expect(c *claim) (int, bool) {
	if !c.scans {
		c.from = r.next
		if c.from+c.n-r.known <= r.cap {
			r.next += c.n
			return -1, true
		}
		c.scans = true
	}
	loaded := r.ends[c.i]
	if c.i == 0 || r.gates[loaded] < c.min {
		c.min = r.gates[loaded]
	}
	if c.i++; c.i < len(r.ends) {
		return loaded, false
	}
	c.i, r.known = 0, c.min
	if c.from+c.n-r.known > r.cap {
		return loaded, false
	}
	c.scans = false
	r.next += c.n
	return loaded, true
}

// step holds a step of a claim against what is expected of it.
func (r *rig[W]) step(c *claim, f *api.Frame[W]) bool {
	r.t.Helper()
	want, accesses, events, cells := *f, r.b.Len(), r.log.Len(), r.cells()
	loaded, ended := r.expect(c)
	want.From, want.I, want.Pc = r.at(c.from), c.i, 0
	if c.scans {
		want.Pc = 1
	}
	var access []api.Access
	if loaded >= 0 {
		want.Min = r.at(c.min)
		has := uint64(r.at(r.gates[loaded]))
		access = append(access, api.Access{Thread: 0, Kind: api.Load, Cell: loaded, Old: has, New: has})
	}
	var noted []api.Event
	if ended {
		noted = []api.Event{{Kind: api.Take, Pos: uint64(want.From), N: f.N}, {Kind: api.Grant}}
	}
	done := r.s.Claim(0, f)
	if done != ended || !reflect.DeepEqual(*f, want) || !slices.Equal(r.cells(), cells) {
		r.t.Fatal(r.up, r.start, done, *f, want)
	}
	if got := r.b.Log()[accesses:]; !slices.Equal(got, access) {
		r.t.Fatal(got, access)
	}
	if got := r.log.From(events); !event.Same(got, noted) {
		r.t.Fatal(got, noted)
	}
	return done
}

// onward moves some gates on, at most to what is claimed; those that are no ends lie anywhere.
func (r *rig[W]) onward(rnd *rand.Rand) {
	for c := range r.gates {
		switch {
		case !slices.Contains(r.ends, c):
			r.gate(c, r.next-rnd.Intn(3*r.cap))
		case rnd.Intn(3) == 0:
			r.gate(c, r.gates[c]+rnd.Intn(r.next-r.gates[c]+1))
		}
	}
}

func claims[W api.Word](t *testing.T, width int) {
	rnd := rand.New(rand.NewSource(19))
	waits := 0
	each(t, width, func(r *rig[W]) {
		for range 25 {
			n := 1 + rnd.Intn(r.cap)
			f, c := frame(n, W(77), W(88)), &claim{n: n}
			for steps := 0; !r.step(c, &f); steps++ {
				if steps > 2 {
					waits++
				}
				if steps > 40 { // nothing is left to wait for
					for _, end := range r.ends {
						r.gate(end, r.next)
					}
				}
				if rnd.Intn(2) == 0 {
					r.onward(rnd)
				}
			}
			if r.next-r.slowest() > r.cap {
				t.Fatal("no room", r.next, r.gates)
			}
		}
	})
	if waits == 0 {
		t.Error("no claim waited")
	}
}

// P19.2: step by step: what is known is asked first, then the ends' gates one by one, till there is room.
func TestClaim(t *testing.T) {
	claims[uint32](t, 32)
	claims[uint64](t, 64)
}

func edges[W api.Word](t *testing.T, width int) {
	each(t, width, func(r *rig[W]) {
		f := frame(r.cap, W(0), W(0))
		if !r.step(&claim{n: r.cap}, &f) || r.b.Len() != 0 {
			t.Fatal("the whole ring", f)
		}
		f = frame(1, W(0), W(0))
		c := &claim{n: 1}
		for range 3 * len(r.ends) {
			if r.step(c, &f) {
				t.Fatal("without room", f)
			}
		}
		if r.b.Len() != 3*len(r.ends) {
			t.Fatal(r.b.Log())
		}
		for _, end := range r.ends[1:] {
			r.gate(end, r.cap)
		}
		for range len(r.ends) {
			if r.step(c, &f) {
				t.Fatal("one gate has not gone on", f)
			}
		}
		r.gate(r.ends[0], 1)
		for i := range r.ends {
			if r.step(c, &f) != (i == len(r.ends)-1) {
				t.Fatal("room for just one", i, f)
			}
		}
		accesses := r.b.Len()
		f = frame(1, W(0), W(0))
		if r.step(&claim{n: 1}, &f) != false || r.b.Len() != accesses+1 {
			t.Fatal("what it knows is 1", f)
		}
	})
}

// P19.2: just a capacity has room, by all the ends' gates, and what is known is what the last scan found.
func TestClaimEdges(t *testing.T) {
	edges[uint32](t, 32)
	edges[uint64](t, 64)
}

func publishes[W api.Word](t *testing.T, width int) {
	each(t, width, func(r *rig[W]) {
		cursor, _ := r.b.Layout().Find("cursor")
		had := uint64(r.start)
		for i, n := range []int{1, 2, r.cap, r.cap - 1, 1} {
			from := r.start + W(i*i) // wherever it is
			f, cells := frame(n, from, W(3)), r.cells()
			cells[cursor] = uint64(from + W(n))
			a := api.Access{Thread: 0, Kind: api.Store, Cell: cursor, Old: had, New: uint64(from + W(n))}
			if !r.s.Publish(0, &f) || !reflect.DeepEqual(f, frame(n, from, W(3))) || !slices.Equal(r.cells(), cells) {
				t.Fatal(f, r.cells(), cells)
			}
			if got := r.b.Log(); len(got) != i+1 || got[i] != a {
				t.Fatal(got, a)
			}
			if e := (api.Event{Kind: api.Put, Pos: uint64(from), N: n}); !event.Same(r.log.From(i), []api.Event{e}) {
				t.Fatal(r.log.From(i), e)
			}
			had = a.New
		}
	})
}

// P19.3: one Store of the end to the cursor, and one Put of all positions.
func TestPublish(t *testing.T) {
	publishes[uint32](t, 32)
	publishes[uint64](t, 64)
}

func tips[W api.Word](t *testing.T, width int) {
	each(t, width, func(r *rig[W]) {
		cursor, _ := r.b.Layout().Find("cursor")
		for i, thread := range []int{1, 0, -1, 9, math.MaxInt, math.MinInt} {
			has := r.start
			if i > 0 {
				has = r.start + W(i*i)
				r.b.Store(7, cursor, has)
			}
			accesses, cells := r.b.Len(), r.cells()
			f := frame(-4, W(6), r.start+1)
			want := frame(-4, W(6), has)
			if !r.s.Tip(thread, &f) || !reflect.DeepEqual(f, want) || !slices.Equal(r.cells(), cells) {
				t.Fatal(f, want)
			}
			a := api.Access{Thread: thread, Kind: api.Load, Cell: cursor, Old: uint64(has), New: uint64(has)}
			if got := r.b.Log()[accesses:]; !slices.Equal(got, []api.Access{a}) || r.log.Len() != 0 {
				t.Fatal(got, a)
			}
		}
	})
}

// P19.3: one Load of the cursor, whoever asks, and whatever was seen ahead of it.
func TestTip(t *testing.T) {
	tips[uint32](t, 32)
	tips[uint64](t, 64)
}

func makes[W api.Word](t *testing.T, width int) {
	for variant := api.One; variant <= api.Lock; variant++ {
		if s := New(boardOf[W](confOf(variant, width, 4, 7, [][]int{nil, {0}})), event.NewLog()); (s != nil) != (variant == api.One) {
			t.Error(variant, s)
		}
	}
	if New[W](nil, event.NewLog()) != nil || New[W](nil, nil) != nil {
		t.Error("no board")
	}
	b := boardOf[W](confOf(api.One, width, 4, 7, [][]int{nil}))
	s := New(b, nil)
	f := frame(4, W(0), W(0))
	if s == nil || !s.Claim(0, &f) || f.From != 7 || !s.Publish(0, &f) || !s.Tip(1, &f) || f.Val != 11 {
		t.Error("no log", f)
	}
}

// P19.1, P1: a sequencer of the variant One alone; without a log nothing is noted.
func TestNew(t *testing.T) {
	makes[uint32](t, 32)
	makes[uint64](t, 64)
}

func refuses[W api.Word](t *testing.T, width int) {
	var none *Seq[W]
	f := frame(1, W(2), W(3))
	if !none.Claim(0, &f) || !none.Publish(0, &f) || !none.Tip(0, &f) || !reflect.DeepEqual(f, frame(1, W(2), W(3))) {
		t.Error("of nil", f)
	}
	if !none.Claim(0, nil) || !none.Publish(0, nil) || !none.Tip(0, nil) {
		t.Error("of nil, without registers")
	}
	r := rigOf[W](t, confOf(api.One, width, 4, 1<<64-2, [][]int{nil, {0}}))
	if !r.s.Claim(0, nil) || !r.s.Publish(0, nil) || !r.s.Tip(1, nil) {
		t.Error("without registers")
	}
	for _, thread := range []int{0, 1, 2, 3, -1, math.MinInt, math.MaxInt} {
		for _, n := range []int{0, -1, 5, 6, math.MinInt, math.MaxInt, 1, 4} {
			if thread == 0 && (n == 1 || n == 4) {
				continue
			}
			for _, pc := range []int{0, 1} {
				f, want := frame(n, W(2), W(3)), frame(n, W(2), W(3))
				f.Pc, want.Pc = pc, pc
				if !r.s.Claim(thread, &f) || !r.s.Publish(thread, &f) || !reflect.DeepEqual(f, want) {
					t.Error(thread, n, f)
				}
			}
		}
	}
	if r.b.Len() != 0 || r.log.Len() != 0 {
		t.Error(r.b.Log(), r.log.From(0))
	}
	f = frame(4, W(0), W(0))
	if !r.step(&claim{n: 4}, &f) || f.From != ^W(0)-1 {
		t.Error("something was claimed", f)
	}
}

// P19.1, P1: of nil, without registers, by no producer, of what is no size: done, and nothing is done.
func TestRefuses(t *testing.T) {
	refuses[uint32](t, 32)
	refuses[uint64](t, 64)
}

// P1: registers that no call left so end too.
func TestOddRegisters(t *testing.T) {
	for _, pc := range []int{-1, 0, 1, 2, 3, math.MinInt, math.MaxInt} {
		for _, i := range []int{-1, 0, 1, 2, math.MinInt, math.MaxInt} {
			r := rigOf[uint32](t, confOf(api.One, 32, 4, 9, [][]int{nil, nil}))
			f := api.Frame[uint32]{N: 4, Pc: pc, I: i}
			r.s.Claim(0, &f)
			r.s.Claim(0, &f)
			r.s.Publish(0, &f)
			r.s.Tip(0, &f)
		}
	}
}

// P19.1: two sequencers have nothing in common.
func TestApart(t *testing.T) {
	c := confOf(api.One, 32, 4, 9, [][]int{nil})
	a, b := rigOf[uint32](t, c), rigOf[uint32](t, c)
	f := frame(4, uint32(0), uint32(0))
	a.step(&claim{n: 4}, &f)
	f = frame(3, uint32(0), uint32(0))
	if !b.step(&claim{n: 3}, &f) || f.From != 9 {
		t.Error(f)
	}
}

// reader is a consumer: what it has seen, and released.
type reader struct{ seen, gate int }

// read is a turn of a consumer: it looks, or moves its gate on to where it has seen.
func (r *rig[W]) read(rnd *rand.Rand, readers []reader, c int) {
	r.t.Helper()
	d := &readers[c]
	switch {
	case rnd.Intn(2) == 0 && d.seen > d.gate:
		d.gate += 1 + rnd.Intn(d.seen-d.gate)
		r.gate(c, d.gate)
	case len(r.up[c]) == 0:
		f := frame(0, W(0), r.at(d.seen))
		if !r.s.Tip(1+c, &f) || f.Val != r.at(r.published) {
			r.t.Fatal("tip", f, r.at(r.published))
		}
		d.seen = r.published
	default:
		d.seen = r.published
		for _, a := range r.up[c] {
			d.seen = min(d.seen, r.gates[a])
		}
	}
}

func runs[W api.Word](t *testing.T, width int) {
	rnd := rand.New(rand.NewSource(194))
	each(t, width, func(r *rig[W]) {
		readers := make([]reader, len(r.up))
		var c *claim
		var f api.Frame[W]
		claimed := 0
		for range 800 {
			switch thread := rnd.Intn(len(r.up)+3) - 3; {
			case thread >= 0:
				r.read(rnd, readers, thread)
			case r.next > r.published:
				if r.s.Publish(0, &f); c.from != r.published {
					t.Fatal("published", c, r.published)
				}
				r.published, c = r.next, nil
			case c == nil:
				c = &claim{n: 1 + rnd.Intn(r.cap)}
				f = frame(c.n, W(0), W(0))
				fallthrough
			default:
				if r.step(c, &f) {
					if f.From != r.at(claimed) || r.next-r.slowest() > r.cap {
						t.Fatal("granted", f, claimed, r.gates)
					}
					claimed += c.n
				}
			}
		}
		tiles(t, r.log.From(0), r.start)
	})
}

// tiles holds takes, and puts, against positions that lie one behind the other.
func tiles[W api.Word](t *testing.T, l []api.Event, start W) {
	t.Helper()
	taken, put := start, start
	for _, e := range l {
		switch e.Kind {
		case api.Take:
			if e.Pos != uint64(taken) {
				t.Fatal("taken", e, taken)
			}
			taken += W(e.N)
		case api.Put:
			if e.Pos != uint64(put) {
				t.Fatal("put", e, put)
			}
			put += W(e.N)
		}
	}
	if taken-start < 8 {
		t.Fatal("hardly anything was claimed", taken, start)
	}
}

// P19.4: long runs of a producer and of consumers, some behind others.
func TestRuns(t *testing.T) {
	runs[uint32](t, 32)
	runs[uint64](t, 64)
}

func alone[W api.Word](t *testing.T, width int) {
	each(t, width, func(r *rig[W]) {
		bound := 4*r.cap + len(r.up) + 8
		for i := range 12 {
			n := 1 + i*7%r.cap
			for c := range r.up { // so that just that has room
				r.gate(c, max(0, r.next+n-r.cap))
			}
			f, c, steps := frame(n, W(0), W(0)), &claim{n: n}, 1
			for !r.step(c, &f) {
				if steps++; steps > bound || steps > len(r.ends) {
					t.Fatal("steps", steps)
				}
			}
			if !r.s.Publish(0, &f) {
				t.Fatal("publish")
			}
		}
	})
}

// P19.5: alone, with room, a claim is done once the ends are scanned, a publish and a tip at once.
func TestAlone(t *testing.T) {
	alone[uint32](t, 32)
	alone[uint64](t, 64)
}

// The chapter's example.
func TestExample(t *testing.T) {
	r := rigOf[uint32](t, confOf(api.One, 32, 4, 0, [][]int{nil, {0}}))
	f, g := api.Frame[uint32]{N: 4}, api.Frame[uint32]{N: 1}
	if !r.s.Claim(0, &f) || r.b.Len() != 0 || r.s.Claim(0, &g) || r.s.Claim(0, &g) || r.b.Len() != 2 {
		t.Error(f, g, r.b.Log())
	}
	r.b.Store(2, 1, 1)
	if !r.s.Claim(0, &g) || g.From != 4 || r.b.Len() != 4 {
		t.Error(g, r.b.Log())
	}
}
