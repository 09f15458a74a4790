package seqstamp

import (
	"math"
	"math/rand"
	"reflect"
	"slices"
	"strconv"
	"testing"

	"sakia/api"
	"sakia/board"
	"sakia/event"
	"sakia/layout"
)

// graphs have one end or several, at the first places and at the last ones.
func graphs() [][][]int {
	return [][][]int{{nil}, {{1}, nil}, {nil, {0}, {0}}, {nil, {0}, {0}, {2, 1}}, {{2}, nil, {1}, {1}}, make([][]int, 6)}
}

// starts are positions about the places where counters of both widths go round.
func starts() []uint64 {
	return []uint64{0, 5, 1 << 31, 1<<32 - 3, 1<<63 - 2, 1<<64 - 5}
}

func confOf(variant, width, cap, producers int, start uint64, up [][]int) api.Conf {
	return api.Conf{Variant: variant, Width: width, Cap: cap, Producers: producers, Start: start, Up: up}
}

// boardOf is the board of a configuration.
func boardOf[W api.Word](c api.Conf) *board.Board[W] {
	l, _ := layout.Of(c)
	return board.New[W](l)
}

// ends are the consumers of a graph that stand in nobody's list.
func ends(up [][]int) []int {
	var out []int
	for c := range up {
		if !slices.ContainsFunc(up, func(ahead []int) bool { return slices.Contains(ahead, c) }) {
			out = append(out, c)
		}
	}
	return out
}

// frame is registers as a call begins with them; those that are another layer's have something.
func frame[W api.Word](n int, from, val W) api.Frame[W] {
	return api.Frame[W]{Op: 1, N: n, Phase: 3, J: 5, From: from, Min: 4, Val: val, Own: 9, Data: []int{10}}
}

// rig is a sequencer, and what is to be true of it, in counts from the start on, which don't go round.
type rig[W api.Word] struct {
	t       *testing.T
	b       *board.Board[W]
	log     *event.Log
	s       *Seq[W]
	start   W
	cap     int
	up      [][]int
	ends    []int
	gates   []int
	known   []int  // by producers
	claimed int    // what is claimed lies below
	put     []bool // by counts: what is published
	stamps  []int  // by counts modulo the capacity, and counts too
	cell    int    // the claim
	marks   []int  // by slots: the stamps' cells
}

func rigOf[W api.Word](t *testing.T, c api.Conf) *rig[W] {
	t.Helper()
	r := &rig[W]{t: t, b: boardOf[W](c), log: event.NewLog(), start: W(c.Start), cap: c.Cap, up: c.Up, ends: ends(c.Up)}
	r.gates, r.known = make([]int, len(c.Up)), make([]int, c.Producers)
	if r.s = New(r.b, r.log); r.s == nil {
		t.Fatal("no sequencer", c)
	}
	r.cell, _ = r.b.Layout().Find("claim")
	for slot := range c.Cap {
		cell, _ := r.b.Layout().Find("stamp" + strconv.Itoa(slot))
		r.marks, r.stamps = append(r.marks, cell), append(r.stamps, slot)
	}
	return r
}

// each goes through sequencers of a width.
func each[W api.Word](t *testing.T, width int, do func(r *rig[W])) {
	for i, cap := range []int{2, 4, 64} {
		for j, start := range starts() {
			for k, up := range graphs() {
				do(rigOf[W](t, confOf(api.Stamp, width, cap, 1+(i+j+k)%4, start, up)))
			}
		}
	}
}

// at is the position of a count.
func (r *rig[W]) at(count int) W { return r.start + W(count) }

// mark is the cell of a position's stamp.
func (r *rig[W]) mark(pos W) int { return r.marks[uint64(pos)%uint64(r.cap)] }

// stamp is a count's stamp.
func (r *rig[W]) stamp(count int) *int { return &r.stamps[(count+r.cap)%r.cap] }

// lay gives a count's stamp a value.
func (r *rig[W]) lay(count, has int) {
	*r.stamp(count) = has
	r.b.Store(9, r.mark(r.at(count)), r.at(has))
}

// gate moves a consumer's gate on.
func (r *rig[W]) gate(c, count int) {
	r.gates[c] = count
	r.b.Store(9, c, r.at(count))
}

// slowest is the least count of the ends' gates.
func (r *rig[W]) slowest() int {
	least := r.gates[r.ends[0]]
	for _, c := range r.ends {
		least = min(least, r.gates[c])
	}
	return least
}

// prefix is how many counts are published, up to the first one that isn't.
func (r *rig[W]) prefix() int {
	if n := slices.Index(r.put, false); n >= 0 {
		return n
	}
	return len(r.put)
}

// cells is what all cells have.
func (r *rig[W]) cells() []uint64 {
	var out []uint64
	for cell := range r.b.Layout().Cells {
		out = append(out, r.b.Peek(cell))
	}
	return out
}

// load is the access that a thread loads a cell by.
func (r *rig[W]) load(thread, cell int) api.Access {
	has := r.b.Peek(cell)
	return api.Access{Thread: thread, Kind: api.Load, Cell: cell, Old: has, New: has}
}

// claim is where a claim of a thread is to be, in counts.
type claim struct{ thread, n, from, min, pc, i, j int }

// onward is where a claim goes on at a count that is to be free: a count is passed where the gate that its thread knows leads the one a capacity less.
func (r *rig[W]) onward(c *claim, otherwise int) {
	if c.pc = otherwise; r.known[c.thread] > c.from+c.j-r.cap {
		c.pc = 3
	}
}

// look is a look at the stamp of a count.
func (r *rig[W]) look(c *claim) api.Access {
	p := c.from + c.j
	switch *r.stamp(p) {
	case p:
		if c.j++; c.j == c.n {
			c.pc = 4
		}
	case p - r.cap + 1:
		if r.onward(c, 2); c.pc == 2 {
			c.i = 0
		}
	default:
		c.pc = 0
	}
	return r.load(c.thread, r.mark(r.at(p)))
}

// scan is a look at an end's gate.
func (r *rig[W]) scan(c *claim) api.Access {
	end := r.ends[c.i]
	if c.i == 0 || r.gates[end] < c.min {
		c.min = r.gates[end]
	}
	if c.i++; c.i == len(r.ends) {
		c.i, r.known[c.thread] = 0, c.min
		r.onward(c, 0)
	}
	return r.load(c.thread, end)
}

// swap is a swap of a cell to a count, if that goes.
func (r *rig[W]) swap(c *claim, cell, now int, goes bool) api.Access {
	a := r.load(c.thread, cell)
	if a.Kind = api.Miss; goes {
		a.Kind, a.New = api.Swap, uint64(r.at(now))
	}
	return a
}

// expect goes on with a claim by a step: the access that is to be made, and whether it is to be done.
func (r *rig[W]) expect(c *claim) (api.Access, bool) {
	switch c.pc {
	case 0:
		c.from, c.j, c.pc = r.claimed, 0, 1
		return r.load(c.thread, r.cell), false
	case 1:
		return r.look(c), false
	case 2:
		return r.scan(c), false
	case 3:
		p := c.from + c.j
		c.pc = 1
		goes := *r.stamp(p) == p-r.cap+1
		if goes {
			*r.stamp(p) = p
		}
		return r.swap(c, r.mark(r.at(p)), p, goes), false
	}
	c.pc = 0
	goes := c.from == r.claimed
	if goes {
		r.claimed += c.n
	}
	return r.swap(c, r.cell, r.claimed, goes), goes
}

// held holds what a step did against the access and the events that were expected of it.
func (r *rig[W]) held(accesses, events int, cells []uint64, a api.Access, noted ...api.Event) {
	r.t.Helper()
	cells[a.Cell] = a.New
	if got := r.b.Log()[accesses:]; !slices.Equal(got, []api.Access{a}) || !slices.Equal(r.cells(), cells) {
		r.t.Fatal(got, a)
	}
	if got := r.log.From(events); !event.Same(got, noted) {
		r.t.Fatal(got, noted)
	}
}

// step holds a step of a claim against what is expected of it.
func (r *rig[W]) step(c *claim, f *api.Frame[W]) bool {
	r.t.Helper()
	want, accesses, events, cells, scans := *f, r.b.Len(), r.log.Len(), r.cells(), c.pc == 2
	a, ended := r.expect(c)
	want.From, want.Pc, want.I, want.J = r.at(c.from), c.pc, c.i, c.j
	if scans {
		want.Min = r.at(c.min)
	}
	done := r.s.Claim(c.thread, f)
	if done != ended || !reflect.DeepEqual(*f, want) {
		r.t.Fatal(r.up, r.start, done, *f, want)
	}
	var noted []api.Event
	if ended {
		noted = []api.Event{{Kind: api.Take, Thread: c.thread, Pos: uint64(f.From), N: f.N}, {Kind: api.Grant, Thread: c.thread}}
	}
	r.held(accesses, events, cells, a, noted...)
	return done
}

// publish holds a step that publishes against what is expected of it.
func (r *rig[W]) publish(thread int, f *api.Frame[W]) bool {
	r.t.Helper()
	want, accesses, events, cells := *f, r.b.Len(), r.log.Len(), r.cells()
	pos := f.From + W(f.I)
	a := r.load(thread, r.mark(pos))
	a.Kind, a.New = api.Store, uint64(pos+1)
	want.I = (f.I + 1) % f.N
	count := int(pos - r.start)
	*r.stamp(count) = count + 1
	done := r.s.Publish(thread, f)
	if done != (want.I == 0) || !reflect.DeepEqual(*f, want) {
		r.t.Fatal(done, *f, want)
	}
	r.held(accesses, events, cells, a, api.Event{Kind: api.Put, Thread: thread, Pos: uint64(pos), N: 1})
	return done
}

// drift moves some gates on, at most to what is published; those that are no ends lie anywhere.
func (r *rig[W]) drift(rnd *rand.Rand) {
	for c := range r.gates {
		switch {
		case !slices.Contains(r.ends, c):
			r.gate(c, r.claimed-rnd.Intn(3*r.cap))
		case rnd.Intn(3) == 0:
			r.gate(c, r.gates[c]+rnd.Intn(r.prefix()-r.gates[c]+1))
		}
	}
}

// shapes counts what came of steps that hang on how threads interleave.
type shapes struct{ free, known, scans, stale, passed, full, freed, late, missed int }

// saw counts what a step of a claim came to, which was at had ahead of it; the access is what it did.
func (s *shapes) saw(had claim, now *claim, a api.Access) {
	switch {
	case had.pc == 1 && now.j > had.j:
		s.free++
	case had.pc == 1 && now.pc == 3:
		s.known++
	case had.pc == 1 && now.pc == 2:
		s.scans++
	case had.pc == 1:
		s.stale++
	case had.pc == 2 && now.pc == 3:
		s.passed++
	case had.pc == 2 && now.pc == 0:
		s.full++
	case had.pc == 3 && a.Kind == api.Swap:
		s.freed++
	case had.pc == 3:
		s.late++
	case had.pc == 4 && a.Kind == api.Miss:
		s.missed++
	}
}

// all tells whether each of these came to be.
func (s *shapes) all() bool {
	return min(s.free, s.known, s.scans, s.stale, s.passed, s.full, s.freed, s.late, s.missed) > 0
}

// others publish some of the counts that are claimed, in any order.
func (r *rig[W]) others(rnd *rand.Rand) {
	for count, put := range r.put {
		if !put && rnd.Intn(3) > 0 {
			r.put[count] = true
			r.lay(count, count+1)
		}
	}
}

func claims[W api.Word](t *testing.T, width int, seen *shapes) {
	rnd := rand.New(rand.NewSource(22))
	each(t, width, func(r *rig[W]) {
		calls, frames := make([]*claim, len(r.known)), make([]api.Frame[W], len(r.known))
		for range 300 {
			thread := rnd.Intn(len(calls))
			c := calls[thread]
			if c == nil {
				c = &claim{thread: thread, n: 1 + rnd.Intn(r.cap), j: 5}
				calls[thread], frames[thread] = c, frame(c.n, W(77), W(88))
			}
			had := *c
			if r.step(c, &frames[thread]) {
				calls[thread] = nil
				r.put = append(r.put, make([]bool, c.n)...)
			}
			seen.saw(had, c, r.b.Log()[r.b.Len()-1])
			if rnd.Intn(4) == 0 {
				r.others(rnd)
				r.drift(rnd)
			}
		}
	})
}

// P22.2: step by step: the claim is loaded, the stamps are looked at one by one, those that are published and passed are freed, and the claim is swapped.
func TestClaim(t *testing.T) {
	var seen shapes
	claims[uint32](t, 32, &seen)
	claims[uint64](t, 64, &seen)
	if !seen.all() {
		t.Error(seen)
	}
}

func stamps[W api.Word](t *testing.T, width int) {
	rnd := rand.New(rand.NewSource(222))
	each(t, width, func(r *rig[W]) {
		r.claimed = 3 * r.cap
		r.b.Store(9, r.cell, r.at(r.claimed))
		for range 100 {
			c := &claim{thread: rnd.Intn(len(r.known)), n: 1 + rnd.Intn(r.cap), from: 2*r.cap + rnd.Intn(2*r.cap), pc: 1 + 2*rnd.Intn(2), i: rnd.Intn(2)}
			c.j = rnd.Intn(c.n)
			f := frame(c.n, r.at(c.from), W(8))
			f.Pc, f.I, f.J = c.pc, c.i, c.j
			p := c.from + c.j
			has := []int{p - r.cap, p - r.cap + 1, p - r.cap + 1, p - r.cap + 2, p - 1, p, p, p + 1, p + r.cap, 0}
			r.lay(p, has[rnd.Intn(len(has))])
			r.known[c.thread] = p - r.cap - 1 + rnd.Intn(4)
			r.s.least[c.thread] = r.at(r.known[c.thread])
			if r.step(c, &f) {
				t.Fatal("done", f)
			}
		}
	})
}

// P22.2: a look at a stamp, and a swap of it, whatever it is, and whatever the thread knows.
func TestStamps(t *testing.T) {
	stamps[uint32](t, 32)
	stamps[uint64](t, 64)
}

// fill publishes what isn't yet.
func (r *rig[W]) fill() {
	for count := len(r.put); count < r.claimed; count++ {
		r.put = append(r.put, true)
		r.lay(count, count+1)
	}
}

func edges[W api.Word](t *testing.T, width int) {
	each(t, width, func(r *rig[W]) {
		last := len(r.known) - 1
		ask := func(n, steps int, want bool) {
			t.Helper()
			f, c := frame(n, W(0), W(0)), &claim{thread: last, n: n, j: 5}
			for i := range steps {
				if done := r.step(c, &f); done != (want && i == steps-1) {
					t.Fatal(i, done, f)
				}
			}
			if f.Pc != 0 {
				t.Fatal("not where it began", f)
			}
		}
		ask(r.cap, r.cap+2, true) // all is free
		ask(1, 4, false)          // nothing is published
		r.fill()
		ask(1, 3*(2+len(r.ends)), false) // nothing was read
		for _, end := range r.ends[1:] {
			r.gate(end, r.cap)
		}
		ask(1, 2+len(r.ends), false) // one gate has not gone on
		r.gate(r.ends[0], 1)
		ask(1, 5+len(r.ends), true)  // room for just one
		ask(1, 2+len(r.ends), false) // room for none
		r.gate(r.ends[0], r.cap)
		ask(r.cap-1, 1+1+len(r.ends)+2+3*(r.cap-2)+1, true) // one scan tells of all
	})
}

// P22.2: just a capacity has room, by all the ends' gates.
func TestClaimEdges(t *testing.T) {
	edges[uint32](t, 32)
	edges[uint64](t, 64)
}

func knows[W api.Word](t *testing.T, width int) {
	r := rigOf[W](t, confOf(api.Stamp, width, 4, 2, 1<<64-2, [][]int{nil}))
	ask := func(thread, n, steps int) {
		t.Helper()
		f, c := frame(n, W(0), W(0)), &claim{thread: thread, n: n, j: 5}
		for i := range steps {
			if r.step(c, &f) != (i == steps-1) {
				t.Fatal(thread, n, i, f)
			}
		}
	}
	ask(0, 4, 6)
	r.fill()
	r.gate(0, 4)
	ask(0, 1, 6) // a scan finds 4
	ask(0, 1, 5)
	ask(1, 1, 6) // what the other one found it doesn't know
	ask(1, 1, 5)
}

// P22.2: what a scan found is known of its thread alone.
func TestKnows(t *testing.T) {
	knows[uint32](t, 32)
	knows[uint64](t, 64)
}

func contend[W api.Word](t *testing.T, width int) {
	r := rigOf[W](t, confOf(api.Stamp, width, 2, 2, 1<<64-2, [][]int{nil}))
	f, c := frame(2, W(0), W(0)), &claim{n: 2, j: 5}
	for i := range 4 {
		if r.step(c, &f) != (i == 3) {
			t.Fatal("all is free", i, f)
		}
	}
	r.fill()
	r.gate(0, 2)
	frames, calls := [2]api.Frame[W]{frame(1, W(0), W(0)), frame(1, W(0), W(0))}, [2]*claim{{n: 1, j: 5}, {thread: 1, n: 1, j: 5}}
	for i, done := range []string{"load", "look", "scan", "free", "look", "swap"} {
		for thread := range 2 {
			if r.step(calls[thread], &frames[thread]) != (thread == 0 && i == 5) {
				t.Fatal(done, thread, frames[thread])
			}
		}
	}
	if frames[0].From != 0 || frames[1].Pc != 0 || r.claimed != 3 {
		t.Error(frames, r.claimed)
	}
}

// P22.2: two that go on step by step: one frees the slot, and is granted it; the other one misses, looks on, misses, and begins anew.
func TestContend(t *testing.T) {
	contend[uint32](t, 32)
	contend[uint64](t, 64)
}

func publishes[W api.Word](t *testing.T, width int) {
	each(t, width, func(r *rig[W]) {
		from := r.start
		for i, n := range []int{1, 2, r.cap, r.cap - 1, 1} {
			thread := i % len(r.known)
			f, steps := frame(n, from, W(3)), 1
			for !r.publish(thread, &f) {
				steps++
			}
			if steps != n || !reflect.DeepEqual(f, frame(n, from, W(3))) {
				t.Fatal(steps, f)
			}
			from += W(n)
		}
	})
}

// P22.3: slot by slot: one stamp is one more than its position, a step, and one Put of that position is noted.
func TestPublish(t *testing.T) {
	publishes[uint32](t, 32)
	publishes[uint64](t, 64)
}

// tip holds a step of a look against what is expected of it: val is the count that it looks at.
func (r *rig[W]) tip(thread, val int, f *api.Frame[W]) bool {
	r.t.Helper()
	want, accesses, events, cells := *f, r.b.Len(), r.log.Len(), r.cells()
	a := r.load(thread, r.mark(r.at(val)))
	more := *r.stamp(val) == val+1
	if want.Val = r.at(val); more {
		want.Val = r.at(val + 1)
	}
	if done := r.s.Tip(thread, f); done == more || !reflect.DeepEqual(*f, want) {
		r.t.Fatal(done, *f, want)
	}
	r.held(accesses, events, cells, a)
	return !more
}

func tips[W api.Word](t *testing.T, width int) {
	each(t, width, func(r *rig[W]) {
		for i, thread := range []int{1, 0, -1, 9, math.MaxInt, math.MinInt} {
			f, val := frame(-4, W(6), r.start), 0
			for !r.tip(thread, val, &f) {
				val++
			}
			if val != min(i, r.cap) {
				t.Fatal(val, i)
			}
			if len(r.put) < r.cap {
				p := frame(1, r.at(i), W(0))
				r.publish(0, &p)
				r.put = append(r.put, true)
			}
		}
	})
}

// P22.3: stamp by stamp, whoever asks, up to the first position that isn't published.
func TestTip(t *testing.T) {
	tips[uint32](t, 32)
	tips[uint64](t, 64)
}

func makes[W api.Word](t *testing.T, width int) {
	for variant := api.One; variant <= api.Lock; variant++ {
		if s := New(boardOf[W](confOf(variant, width, 4, 1, 7, [][]int{nil, {0}})), event.NewLog()); (s != nil) != (variant == api.Stamp) {
			t.Error(variant, s)
		}
	}
	if New[W](nil, event.NewLog()) != nil || New[W](nil, nil) != nil {
		t.Error("no board")
	}
	b := boardOf[W](confOf(api.Stamp, width, 4, 3, 7, [][]int{nil}))
	s := New(b, nil)
	f, g := frame(1, W(0), W(0)), frame(0, W(0), W(7))
	if s == nil || s.Claim(2, &f) || s.Claim(2, &f) || !s.Claim(2, &f) || f.From != 7 || !s.Publish(2, &f) || s.Tip(3, &g) || !s.Tip(3, &g) || g.Val != 8 {
		t.Error("no log", f, g)
	}
}

// P22.1, P1: a sequencer of the variant Stamp alone; without a log nothing is noted.
func TestNew(t *testing.T) {
	makes[uint32](t, 32)
	makes[uint64](t, 64)
}

func refuses[W api.Word](t *testing.T, width int) {
	var none *Seq[W]
	f := frame(1, W(2), W(3))
	if !none.Claim(0, &f) || !none.Publish(0, &f) || !none.Tip(0, &f) || !reflect.DeepEqual(f, frame(1, W(2), W(3))) {
		t.Error("of nil", f)
	}
	if !none.Claim(0, nil) || !none.Publish(0, nil) || !none.Tip(0, nil) {
		t.Error("of nil, without registers")
	}
	r := rigOf[W](t, confOf(api.Stamp, width, 4, 2, 1<<64-2, [][]int{nil, {0}}))
	if !r.s.Claim(0, nil) || !r.s.Publish(0, nil) || !r.s.Tip(2, nil) {
		t.Error("without registers")
	}
	for _, thread := range []int{0, 1, 2, 3, 4, -1, math.MinInt, math.MaxInt} {
		for _, n := range []int{0, -1, 5, 6, math.MinInt, math.MaxInt, 1, 4} {
			if (thread == 0 || thread == 1) && (n == 1 || n == 4) {
				continue
			}
			for pc := range 5 {
				f, want := frame(n, W(2), W(3)), frame(n, W(2), W(3))
				f.Pc, want.Pc = pc, pc
				if !r.s.Claim(thread, &f) || !r.s.Publish(thread, &f) || !reflect.DeepEqual(f, want) {
					t.Error(thread, n, f)
				}
			}
		}
	}
	if r.b.Len() != 0 || r.log.Len() != 0 {
		t.Error(r.b.Log(), r.log.From(0))
	}
	f = frame(4, W(0), W(0))
	c := &claim{thread: 1, n: 4, j: 5}
	for range 5 {
		r.step(c, &f)
	}
	if !r.step(c, &f) || f.From != ^W(0)-1 {
		t.Error("something was claimed", f)
	}
}

// P22.1, P1: of nil, without registers, by no producer, of what is no size: done, and nothing is done.
func TestRefuses(t *testing.T) {
	refuses[uint32](t, 32)
	refuses[uint64](t, 64)
}

// P1: registers that no call left so end too.
func TestOddRegisters(t *testing.T) {
	odd := []int{-1, 0, 1, 2, 3, 4, 5, math.MinInt, math.MaxInt}
	for _, pc := range odd {
		for _, i := range odd {
			for _, j := range odd {
				r := rigOf[uint32](t, confOf(api.Stamp, 32, 4, 1, 9, [][]int{nil, nil}))
				f := api.Frame[uint32]{N: 4, Pc: pc, I: i, J: j}
				r.s.Claim(0, &f)
				r.s.Claim(0, &f)
				r.s.Publish(0, &f)
				r.s.Tip(0, &f)
			}
		}
	}
}

// thread is who takes part in a long run.
type thread[W api.Word] struct {
	f          api.Frame[W]
	claim      *claim // a producer's, till it is granted
	publishes  bool
	looks      bool // a consumer's
	val, first int  // how far the look is, and what was published as it began
	seen, gate int
}

// produce is a step of a producer, which publishes what it has claimed, and claims anew then.
func (r *rig[W]) produce(rnd *rand.Rand, d *thread[W], number int) {
	r.t.Helper()
	if d.publishes {
		r.put[int(d.f.From-r.start)+d.f.I] = true
		d.publishes = !r.publish(number, &d.f)
		return
	}
	if d.claim == nil {
		d.claim = &claim{thread: number, n: 1 + rnd.Intn(r.cap), j: 5}
		d.f = frame(d.claim.n, W(0), W(0))
	}
	taken := r.claimed
	if !r.step(d.claim, &d.f) {
		return
	}
	if d.f.From != r.at(taken) || r.claimed != taken+d.f.N || r.claimed-r.slowest() > r.cap {
		r.t.Fatal("granted", d.f, taken, r.gates)
	}
	r.put = append(r.put, make([]bool, d.f.N)...)
	d.claim, d.publishes = nil, true
}

// read is a step of a consumer: it looks, or moves its gate on to where it has seen.
func (r *rig[W]) read(rnd *rand.Rand, d *thread[W], c int) {
	r.t.Helper()
	switch {
	case d.looks:
		if !r.tip(len(r.known)+c, d.val, &d.f) {
			d.val++
			return
		}
		if now := r.prefix(); d.val < d.first || d.val > now || d.f.Val != r.at(d.val) {
			r.t.Fatal("tip", d.first, d.val, now)
		}
		d.looks, d.seen = false, d.val
	case rnd.Intn(2) == 0 && d.seen > d.gate:
		d.gate += 1 + rnd.Intn(d.seen-d.gate)
		r.gate(c, d.gate)
	case len(r.up[c]) == 0:
		d.looks, d.val, d.first, d.f = true, d.seen, r.prefix(), frame(0, W(0), r.at(d.seen))
	default:
		d.seen = math.MaxInt
		for _, a := range r.up[c] {
			d.seen = min(d.seen, r.gates[a])
		}
	}
}

// within steps on till a call ends, and holds how many steps that takes against the bound.
func (r *rig[W]) within(step func(), ended func() bool) {
	r.t.Helper()
	for steps := 1; ; steps++ {
		if step(); ended() {
			return
		}
		if steps == 4*r.cap+len(r.up)+8 {
			r.t.Fatal("not done within the bound", steps)
		}
	}
}

// rest is the end of a run: one by one the producers end what they are in, each alone, and with room.
func (r *rig[W]) rest(rnd *rand.Rand, threads []thread[W]) {
	r.t.Helper()
	publish := func(number int) {
		if d := &threads[number]; d.publishes {
			r.within(func() { r.produce(rnd, d, number) }, func() bool { return !d.publishes })
		}
	}
	for number := range r.known {
		publish(number)
	}
	for number := range r.known {
		for c := range r.gates {
			r.gate(c, r.claimed)
		}
		if d := &threads[number]; d.claim != nil {
			r.within(func() { r.produce(rnd, d, number) }, func() bool { return d.claim == nil })
			publish(number)
		}
	}
}

func runs[W api.Word](t *testing.T, width int) {
	rnd := rand.New(rand.NewSource(204))
	each(t, width, func(r *rig[W]) {
		threads := make([]thread[W], len(r.known)+len(r.up))
		number := 0
		for range 1500 {
			if rnd.Intn(3) > 0 { // else the same thread goes on
				number = rnd.Intn(len(threads))
			}
			if number < len(r.known) {
				r.produce(rnd, &threads[number], number)
			} else {
				r.read(rnd, &threads[number], number-len(r.known))
			}
		}
		taken := r.start
		for _, e := range event.Only(r.log.From(0), api.Take) {
			if e.Pos != uint64(taken) {
				t.Fatal("taken", e, taken)
			}
			taken += W(e.N)
		}
		if taken != r.at(r.claimed) || r.claimed < 8 {
			t.Fatal("hardly anything was claimed", r.claimed)
		}
		r.rest(rnd, threads)
	})
}

// P22.4, P22.5: long runs of up to four producers, and of consumers, some behind others; then each producer goes on alone from wherever it is.
func TestRuns(t *testing.T) {
	runs[uint32](t, 32)
	runs[uint64](t, 64)
}

func alone[W api.Word](t *testing.T, width int) {
	each(t, width, func(r *rig[W]) {
		bound := 4*r.cap + len(r.up) + 8
		for i := range 7 {
			n, number := 1+i*7%r.cap, i%len(r.known)
			for c := range r.up { // so that just that has room
				r.gate(c, max(0, r.claimed+n-r.cap))
			}
			f, c, steps := frame(n, W(0), W(0)), &claim{thread: number, n: n, j: 5}, 1
			for !r.step(c, &f) {
				if steps++; steps > bound || steps > 2+len(r.ends)+3*n {
					t.Fatal("claim", steps)
				}
			}
			r.put = append(r.put, slices.Repeat([]bool{true}, n)...)
			for steps = 1; !r.publish(number, &f); steps++ {
				if steps > bound {
					t.Fatal("publish", steps)
				}
			}
			val := r.slowest()
			g := frame(0, W(0), r.at(val))
			for steps = 1; !r.tip(len(r.known), val, &g); steps++ {
				if val++; steps > bound || steps > r.cap {
					t.Fatal("tip", steps)
				}
			}
		}
	})
}

// P22.5: alone, with room, each call is done within its bound.
func TestAlone(t *testing.T) {
	alone[uint32](t, 32)
	alone[uint64](t, 64)
}

// through steps on till a call is done; no call of the example takes a hundred steps.
func through(t *testing.T, step func() bool) {
	t.Helper()
	for range 100 {
		if step() {
			return
		}
	}
	t.Fatal("not done")
}

// The chapter's example.
func TestExample(t *testing.T) {
	b := boardOf[uint32](confOf(api.Stamp, 32, 2, 1, 0, [][]int{nil}))
	s := New(b, event.NewLog())
	has := func(when string, want ...uint64) {
		t.Helper()
		if l := b.Layout(); b.Peek(l.Mark(0)) != want[0] || b.Peek(l.Mark(1)) != want[1] {
			t.Error(when, b.Peek(l.Mark(0)), b.Peek(l.Mark(1)))
		}
	}
	has("at first", 0, 1)
	f, g, h := api.Frame[uint32]{N: 2}, api.Frame[uint32]{N: 2}, api.Frame[uint32]{N: 1}
	through(t, func() bool { return s.Claim(0, &f) })
	has("claimed", 0, 1)
	through(t, func() bool { return s.Publish(0, &g) })
	has("published", 1, 2)
	b.Store(1, 0, 2)
	through(t, func() bool { return s.Claim(0, &h) })
	has("claimed again", 2, 2)
	if h.From != 2 || b.Peek(b.Layout().Claim) != 3 {
		t.Error(h)
	}
}
