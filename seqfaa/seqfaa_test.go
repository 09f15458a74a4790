package seqfaa

import (
	"math"
	"math/rand"
	"reflect"
	"slices"
	"strconv"
	"testing"

	"sakia/api"
	"sakia/board"
	"sakia/event"
	"sakia/layout"
)

// graphs have one end or several, at the first places and at the last ones.
func graphs() [][][]int {
	return [][][]int{{nil}, {{1}, nil}, {nil, {0}, {0}}, {nil, {0}, {0}, {2, 1}}, {{2}, nil, {1}, {1}}, make([][]int, 6)}
}

// starts are positions about the places where counters of both widths go round.
func starts() []uint64 {
	return []uint64{0, 5, 1 << 31, 1<<32 - 3, 1<<63 - 2, 1<<64 - 5}
}

func confOf(variant, width, cap, producers int, start uint64, up [][]int) api.Conf {
	return api.Conf{Variant: variant, Width: width, Cap: cap, Producers: producers, Start: start, Up: up}
}

// boardOf is the board of a configuration.
func boardOf[W api.Word](c api.Conf) *board.Board[W] {
	l, _ := layout.Of(c)
	return board.New[W](l)
}

// ends are the consumers of a graph that stand in nobody's list.
func ends(up [][]int) []int {
	var out []int
	for c := range up {
		if !slices.ContainsFunc(up, func(ahead []int) bool { return slices.Contains(ahead, c) }) {
			out = append(out, c)
		}
	}
	return out
}

// frame is registers as a call begins with them; those that are another layer's have something.
func frame[W api.Word](n int, from, val W) api.Frame[W] {
	return api.Frame[W]{Op: 1, N: n, Phase: 3, J: 5, From: from, Val: val, Own: 9, Data: []int{10}}
}

// rig is a sequencer, and what is to be true of it, in counts from the start on, which don't go round.
type rig[W api.Word] struct {
	t       *testing.T
	b       *board.Board[W]
	log     *event.Log
	s       *Seq[W]
	start   W
	cap     int
	up      [][]int
	ends    []int
	gates   []int
	known   []int  // by producers
	claimed int    // what is claimed lies below
	put     []bool // by counts: what is published
	cell    int    // the claim
	marks   []int  // by slots
}

func rigOf[W api.Word](t *testing.T, c api.Conf) *rig[W] {
	t.Helper()
	r := &rig[W]{t: t, b: boardOf[W](c), log: event.NewLog(), start: W(c.Start), cap: c.Cap, up: c.Up, ends: ends(c.Up)}
	r.gates, r.known = make([]int, len(c.Up)), make([]int, c.Producers)
	if r.s = New(r.b, r.log); r.s == nil {
		t.Fatal("no sequencer", c)
	}
	r.cell, _ = r.b.Layout().Find("claim")
	for slot := range c.Cap {
		cell, _ := r.b.Layout().Find("mark" + strconv.Itoa(slot))
		r.marks = append(r.marks, cell)
	}
	return r
}

// each goes through sequencers of a width.
func each[W api.Word](t *testing.T, width int, do func(r *rig[W])) {
	for i, cap := range []int{2, 4, 64} {
		for j, start := range starts() {
			for k, up := range graphs() {
				do(rigOf[W](t, confOf(api.Faa, width, cap, 1+(i+j+k)%4, start, up)))
			}
		}
	}
}

// at is the position of a count.
func (r *rig[W]) at(count int) W { return r.start + W(count) }

// mark is the cell of a position's mark.
func (r *rig[W]) mark(pos W) int { return r.marks[uint64(pos)%uint64(r.cap)] }

// gate moves a consumer's gate on.
func (r *rig[W]) gate(c, count int) {
	r.gates[c] = count
	r.b.Store(9, c, r.at(count))
}

// slowest is the least count of the ends' gates.
func (r *rig[W]) slowest() int {
	least := r.gates[r.ends[0]]
	for _, c := range r.ends {
		least = min(least, r.gates[c])
	}
	return least
}

// prefix is how many counts are published, up to the first one that isn't.
func (r *rig[W]) prefix() int {
	if n := slices.Index(r.put, false); n >= 0 {
		return n
	}
	return len(r.put)
}

// cells is what all cells have.
func (r *rig[W]) cells() []uint64 {
	var out []uint64
	for cell := range r.b.Layout().Cells {
		out = append(out, r.b.Peek(cell))
	}
	return out
}

// load is the access that a thread loads a cell by.
func (r *rig[W]) load(thread, cell int) api.Access {
	has := r.b.Peek(cell)
	return api.Access{Thread: thread, Kind: api.Load, Cell: cell, Old: has, New: has}
}

// claim is where a claim of a thread is to be, in counts.
type claim struct{ thread, n, from, min, pc, i int }

// fits tells whether a claim has room, by what its thread knows.
func (r *rig[W]) fits(c *claim) bool {
	return c.from+c.n-r.known[c.thread] <= r.cap
}

// take is the first step of a claim: the access that is to be made.
func (r *rig[W]) take(c *claim) api.Access {
	a := r.load(c.thread, r.cell)
	c.from = r.claimed
	r.claimed += c.n
	a.Kind, a.New = api.Add, uint64(r.at(r.claimed))
	return a
}

// scan is another step of a claim: the access that is to be made, and whether all ends were looked at.
func (r *rig[W]) scan(c *claim) (api.Access, bool) {
	end := r.ends[c.i]
	if c.i == 0 || r.gates[end] < c.min {
		c.min = r.gates[end]
	}
	if c.i++; c.i == len(r.ends) {
		c.i, r.known[c.thread] = 0, c.min
	}
	return r.load(c.thread, end), c.i == 0
}

// expect goes on with a claim by a step: the access that is to be made, the events that are to be noted, and whether it is to be done.
func (r *rig[W]) expect(c *claim) (api.Access, []api.Event, bool) {
	var a api.Access
	var noted []api.Event
	whole := true
	if c.pc == 0 {
		a = r.take(c)
		noted = append(noted, api.Event{Kind: api.Take, Thread: c.thread, Pos: uint64(r.at(c.from)), N: c.n})
	} else {
		a, whole = r.scan(c)
	}
	if !whole || !r.fits(c) {
		c.pc = 1
		return a, noted, false
	}
	c.pc = 0
	return a, append(noted, api.Event{Kind: api.Grant, Thread: c.thread}), true
}

// held holds what a step did against the access and the events that were expected of it.
func (r *rig[W]) held(accesses, events int, cells []uint64, a api.Access, noted ...api.Event) {
	r.t.Helper()
	cells[a.Cell] = a.New
	if got := r.b.Log()[accesses:]; !slices.Equal(got, []api.Access{a}) || !slices.Equal(r.cells(), cells) {
		r.t.Fatal(got, a)
	}
	if got := r.log.From(events); !event.Same(got, noted) {
		r.t.Fatal(got, noted)
	}
}

// step holds a step of a claim against what is expected of it.
func (r *rig[W]) step(c *claim, f *api.Frame[W]) bool {
	r.t.Helper()
	want, accesses, events, cells, scans := *f, r.b.Len(), r.log.Len(), r.cells(), c.pc == 1
	a, noted, ended := r.expect(c)
	want.From, want.Pc, want.I = r.at(c.from), c.pc, c.i
	if scans {
		want.Min = r.at(c.min)
	}
	done := r.s.Claim(c.thread, f)
	if done != ended || !reflect.DeepEqual(*f, want) {
		r.t.Fatal(r.up, r.start, done, *f, want)
	}
	r.held(accesses, events, cells, a, noted...)
	return done
}

// publish holds a step that publishes against what is expected of it.
func (r *rig[W]) publish(thread int, f *api.Frame[W]) bool {
	r.t.Helper()
	want, accesses, events, cells := *f, r.b.Len(), r.log.Len(), r.cells()
	pos := f.From + W(f.I)
	a := r.load(thread, r.mark(pos))
	a.Kind, a.New = api.Store, uint64(pos)/uint64(r.cap)
	want.I = (f.I + 1) % f.N
	done := r.s.Publish(thread, f)
	if done != (want.I == 0) || !reflect.DeepEqual(*f, want) {
		r.t.Fatal(done, *f, want)
	}
	r.held(accesses, events, cells, a, api.Event{Kind: api.Put, Thread: thread, Pos: uint64(pos), N: 1})
	return done
}

// onward moves some gates on, at most to what is claimed; those that are no ends lie anywhere.
func (r *rig[W]) onward(rnd *rand.Rand) {
	for c := range r.gates {
		switch {
		case !slices.Contains(r.ends, c):
			r.gate(c, r.claimed-rnd.Intn(3*r.cap))
		case rnd.Intn(3) == 0:
			r.gate(c, r.gates[c]+rnd.Intn(r.claimed-r.gates[c]+1))
		}
	}
}

// shapes counts what came of steps that hang on how threads interleave.
type shapes struct{ atOnce, later, again, overtaken int }

func claims[W api.Word](t *testing.T, width int, seen *shapes) {
	rnd := rand.New(rand.NewSource(21))
	each(t, width, func(r *rig[W]) {
		calls, frames := make([]*claim, len(r.known)), make([]api.Frame[W], len(r.known))
		for range 200 {
			thread := rnd.Intn(len(calls))
			c := calls[thread]
			if c == nil {
				c = &claim{thread: thread, n: 1 + rnd.Intn(r.cap)}
				calls[thread], frames[thread] = c, frame(c.n, W(77), W(88))
			}
			had := c.pc
			switch done := r.step(c, &frames[thread]); {
			case done && had == 0:
				seen.atOnce++
			case done && c.from+c.n < r.claimed:
				seen.overtaken++
			case done:
				seen.later++
			case had == 1 && c.i == 0:
				seen.again++
			}
			if calls[thread].pc == 0 {
				calls[thread] = nil
			}
			if rnd.Intn(2) == 0 {
				r.onward(rnd)
			}
		}
	})
}

// P21.2: step by step: what is claimed is taken, and the ends' gates are scanned till it has room by them.
func TestClaim(t *testing.T) {
	var seen shapes
	claims[uint32](t, 32, &seen)
	claims[uint64](t, 64, &seen)
	if seen.atOnce == 0 || seen.later == 0 || seen.again == 0 || seen.overtaken == 0 {
		t.Error(seen)
	}
}

func edges[W api.Word](t *testing.T, width int) {
	each(t, width, func(r *rig[W]) {
		last := len(r.known) - 1
		f, c := frame(r.cap, W(0), W(0)), &claim{thread: last, n: r.cap}
		if !r.step(c, &f) || f.Pc != 0 || r.b.Len() != 1 {
			t.Fatal("the whole ring", f)
		}
		f, c = frame(1, W(0), W(0)), &claim{thread: last, n: 1}
		if r.step(c, &f) || f.Pc == 0 || f.From != r.at(r.cap) {
			t.Fatal("taken, and without room", f)
		}
		for range 3 * len(r.ends) {
			if r.step(c, &f) || f.Pc == 0 {
				t.Fatal("without room", f)
			}
		}
		for _, end := range r.ends[1:] {
			r.gate(end, r.cap)
		}
		for range len(r.ends) {
			if r.step(c, &f) {
				t.Fatal("one gate has not gone on", f)
			}
		}
		r.gate(r.ends[0], 1)
		for range len(r.ends) - 1 {
			if r.step(c, &f) {
				t.Fatal("within a scan", f)
			}
		}
		if !r.step(c, &f) || f.Pc != 0 {
			t.Fatal("room for just one", f)
		}
	})
}

// P21.2: just a capacity has room, by all the ends' gates.
func TestClaimEdges(t *testing.T) {
	edges[uint32](t, 32)
	edges[uint64](t, 64)
}

func knows[W api.Word](t *testing.T, width int) {
	r := rigOf[W](t, confOf(api.Faa, width, 4, 2, 1<<64-2, [][]int{nil}))
	ask := func(thread, n, steps int) {
		t.Helper()
		f, c := frame(n, W(0), W(0)), &claim{thread: thread, n: n}
		for i := range steps {
			if r.step(c, &f) != (i == steps-1) {
				t.Fatal(thread, n, i, f)
			}
		}
	}
	ask(0, 4, 1)
	r.gate(0, 4)
	ask(0, 1, 2) // a scan finds 4
	ask(0, 1, 1)
	ask(1, 1, 2) // what the other one found it doesn't know
	ask(1, 1, 1)
}

// P21.2: what a scan found is known of its thread alone.
func TestKnows(t *testing.T) {
	knows[uint32](t, 32)
	knows[uint64](t, 64)
}

func others[W api.Word](t *testing.T, width int) {
	for _, pc := range []int{1, 2, 7, -1, math.MinInt, math.MaxInt} {
		r := rigOf[W](t, confOf(api.Faa, width, 4, 1, 1<<64-2, [][]int{nil, nil}))
		r.claimed = 3
		r.b.Store(9, r.cell, r.at(3))
		f, want := frame(3, r.at(2), W(0)), frame(3, r.at(2), W(0))
		f.Pc, want.Pc = pc, pc
		for i := range 2 { // the gates are at 0: what has come to 5 has no room
			if r.s.Claim(0, &f) || f.I != 1-i || f.Min != r.at(0) {
				t.Error(pc, i, f)
			}
		}
		want.Min = r.at(0)
		if !reflect.DeepEqual(f, want) || r.log.Len() != 0 {
			t.Error(pc, f, want)
		}
		r.gate(0, 1)
		r.gate(1, 2)
		want.Pc, want.Min = 0, r.at(1)
		if r.s.Claim(0, &f) || !r.s.Claim(0, &f) || !reflect.DeepEqual(f, want) {
			t.Error(pc, f, want)
		}
		if !event.Same(r.log.From(0), []api.Event{{Kind: api.Grant}}) || r.b.Peek(r.cell) != uint64(r.at(3)) {
			t.Error(pc, r.log.From(0))
		}
	}
}

// P21.2: with any other Pc the ends are scanned, and nothing is taken.
func TestClaimOtherPc(t *testing.T) {
	others[uint32](t, 32)
	others[uint64](t, 64)
}

func publishes[W api.Word](t *testing.T, width int) {
	each(t, width, func(r *rig[W]) {
		from := r.start
		for i, n := range []int{1, 2, r.cap, r.cap - 1, 1} {
			thread := i % len(r.known)
			f, steps := frame(n, from, W(3)), 1
			for !r.publish(thread, &f) {
				steps++
			}
			if steps != n || !reflect.DeepEqual(f, frame(n, from, W(3))) {
				t.Fatal(steps, f)
			}
			from += W(n)
		}
	})
}

// P21.3: slot by slot: one mark is laid a step, and one Put of that position is noted.
func TestPublish(t *testing.T) {
	publishes[uint32](t, 32)
	publishes[uint64](t, 64)
}

// P21.3: where no position is marked no event is noted.
func TestPublishNothing(t *testing.T) {
	for _, i := range []int{-1, 3, 4, math.MinInt, math.MaxInt} {
		r := rigOf[uint32](t, confOf(api.Faa, 32, 4, 2, 9, [][]int{nil}))
		f, want := frame(3, uint32(9), uint32(0)), frame(3, uint32(9), uint32(0))
		f.I = i
		if !r.s.Publish(1, &f) || !reflect.DeepEqual(f, want) || r.b.Len() != 0 || r.log.Len() != 0 {
			t.Error(i, f, r.log.From(0))
		}
	}
}

// tip holds a step of a look against what is expected of it: val is the count that it looks at.
func (r *rig[W]) tip(thread, val int, f *api.Frame[W]) bool {
	r.t.Helper()
	want, accesses, events, cells := *f, r.b.Len(), r.log.Len(), r.cells()
	a := r.load(thread, r.mark(r.at(val)))
	more := val < len(r.put) && r.put[val]
	if want.Val = r.at(val); more {
		want.Val = r.at(val + 1)
	}
	if done := r.s.Tip(thread, f); done == more || !reflect.DeepEqual(*f, want) {
		r.t.Fatal(done, *f, want)
	}
	r.held(accesses, events, cells, a)
	return !more
}

func tips[W api.Word](t *testing.T, width int) {
	each(t, width, func(r *rig[W]) {
		for i, thread := range []int{1, 0, -1, 9, math.MaxInt, math.MinInt} {
			f, val := frame(-4, W(6), r.start), 0
			for !r.tip(thread, val, &f) {
				val++
			}
			if val != min(i, r.cap) {
				t.Fatal(val, i)
			}
			if len(r.put) < r.cap {
				p := frame(1, r.at(i), W(0))
				r.publish(0, &p)
				r.put = append(r.put, true)
			}
		}
	})
}

// P21.3: mark by mark, whoever asks, up to the first position that isn't published.
func TestTip(t *testing.T) {
	tips[uint32](t, 32)
	tips[uint64](t, 64)
}

func makes[W api.Word](t *testing.T, width int) {
	for variant := api.One; variant <= api.Lock; variant++ {
		if s := New(boardOf[W](confOf(variant, width, 4, 1, 7, [][]int{nil, {0}})), event.NewLog()); (s != nil) != (variant == api.Faa) {
			t.Error(variant, s)
		}
	}
	if New[W](nil, event.NewLog()) != nil || New[W](nil, nil) != nil {
		t.Error("no board")
	}
	b := boardOf[W](confOf(api.Faa, width, 4, 3, 7, [][]int{nil}))
	s := New(b, nil)
	f, g := frame(1, W(0), W(0)), frame(0, W(0), W(7))
	if s == nil || !s.Claim(2, &f) || f.From != 7 || !s.Publish(2, &f) || s.Tip(3, &g) || !s.Tip(3, &g) || g.Val != 8 {
		t.Error("no log", f, g)
	}
}

// P21.1, P1: a sequencer of the variant Faa alone; without a log nothing is noted.
func TestNew(t *testing.T) {
	makes[uint32](t, 32)
	makes[uint64](t, 64)
}

func refuses[W api.Word](t *testing.T, width int) {
	var none *Seq[W]
	f := frame(1, W(2), W(3))
	if !none.Claim(0, &f) || !none.Publish(0, &f) || !none.Tip(0, &f) || !reflect.DeepEqual(f, frame(1, W(2), W(3))) {
		t.Error("of nil", f)
	}
	if !none.Claim(0, nil) || !none.Publish(0, nil) || !none.Tip(0, nil) {
		t.Error("of nil, without registers")
	}
	r := rigOf[W](t, confOf(api.Faa, width, 4, 2, 1<<64-2, [][]int{nil, {0}}))
	if !r.s.Claim(0, nil) || !r.s.Publish(0, nil) || !r.s.Tip(2, nil) {
		t.Error("without registers")
	}
	for _, thread := range []int{0, 1, 2, 3, 4, -1, math.MinInt, math.MaxInt} {
		for _, n := range []int{0, -1, 5, 6, math.MinInt, math.MaxInt, 1, 4} {
			if (thread == 0 || thread == 1) && (n == 1 || n == 4) {
				continue
			}
			for pc := range 3 {
				f, want := frame(n, W(2), W(3)), frame(n, W(2), W(3))
				f.Pc, want.Pc = pc, pc
				if !r.s.Claim(thread, &f) || !r.s.Publish(thread, &f) || !reflect.DeepEqual(f, want) {
					t.Error(thread, n, f)
				}
			}
		}
	}
	if r.b.Len() != 0 || r.log.Len() != 0 {
		t.Error(r.b.Log(), r.log.From(0))
	}
	f = frame(4, W(0), W(0))
	c := &claim{thread: 1, n: 4}
	if !r.step(c, &f) || f.From != ^W(0)-1 {
		t.Error("something was claimed", f)
	}
}

// P21.1, P1: of nil, without registers, by no producer, of what is no size: done, and nothing is done.
func TestRefuses(t *testing.T) {
	refuses[uint32](t, 32)
	refuses[uint64](t, 64)
}

// P1: registers that no call left so end too.
func TestOddRegisters(t *testing.T) {
	for _, pc := range []int{-1, 0, 1, 2, 3, 4, math.MinInt, math.MaxInt} {
		for _, i := range []int{-1, 0, 1, 2, math.MinInt, math.MaxInt} {
			r := rigOf[uint32](t, confOf(api.Faa, 32, 4, 1, 9, [][]int{nil, nil}))
			f := api.Frame[uint32]{N: 4, Pc: pc, I: i}
			r.s.Claim(0, &f)
			r.s.Claim(0, &f)
			r.s.Publish(0, &f)
			r.s.Tip(0, &f)
		}
	}
}

// thread is who takes part in a long run.
type thread[W api.Word] struct {
	f          api.Frame[W]
	claim      *claim // a producer's, till it is granted
	publishes  bool
	looks      bool // a consumer's
	val, first int  // how far the look is, and what was published as it began
	seen, gate int
}

// produce is a step of a producer, which publishes what it has claimed, and claims anew then.
func (r *rig[W]) produce(rnd *rand.Rand, d *thread[W], number int) {
	r.t.Helper()
	if d.publishes {
		r.put[int(d.f.From-r.start)+d.f.I] = true
		d.publishes = !r.publish(number, &d.f)
		return
	}
	if d.claim == nil {
		d.claim = &claim{thread: number, n: 1 + rnd.Intn(r.cap)}
		d.f = frame(d.claim.n, W(0), W(0))
	}
	taken, takes := r.claimed, d.claim.pc == 0
	granted := r.step(d.claim, &d.f)
	if takes {
		if d.f.From != r.at(taken) || r.claimed != taken+d.f.N {
			r.t.Fatal("taken", d.f, taken)
		}
		r.put = append(r.put, make([]bool, d.f.N)...)
	}
	if !granted {
		return
	}
	if d.claim.from+d.claim.n-r.slowest() > r.cap {
		r.t.Fatal("granted", d.f, d.claim, r.gates)
	}
	d.claim, d.publishes = nil, true
}

// read is a step of a consumer: it looks, or moves its gate on to where it has seen.
func (r *rig[W]) read(rnd *rand.Rand, d *thread[W], c int) {
	r.t.Helper()
	switch {
	case d.looks:
		if !r.tip(len(r.known)+c, d.val, &d.f) {
			d.val++
			return
		}
		if now := r.prefix(); d.val < d.first || d.val > now || d.f.Val != r.at(d.val) {
			r.t.Fatal("tip", d.first, d.val, now)
		}
		d.looks, d.seen = false, d.val
	case rnd.Intn(2) == 0 && d.seen > d.gate:
		d.gate += 1 + rnd.Intn(d.seen-d.gate)
		r.gate(c, d.gate)
	case len(r.up[c]) == 0:
		d.looks, d.val, d.first, d.f = true, d.seen, r.prefix(), frame(0, W(0), r.at(d.seen))
	default:
		d.seen = math.MaxInt
		for _, a := range r.up[c] {
			d.seen = min(d.seen, r.gates[a])
		}
	}
}

// within steps on till a call ends, and holds how many steps that takes against the bound.
func (r *rig[W]) within(step func(), ended func() bool) {
	r.t.Helper()
	for steps := 1; ; steps++ {
		if step(); ended() {
			return
		}
		if steps == 4*r.cap+len(r.up)+8 {
			r.t.Fatal("not done within the bound", steps)
		}
	}
}

// rest is the end of a run: one by one the producers end what they are in, each alone, and with room.
func (r *rig[W]) rest(rnd *rand.Rand, threads []thread[W]) {
	r.t.Helper()
	publish := func(number int) {
		if d := &threads[number]; d.publishes {
			r.within(func() { r.produce(rnd, d, number) }, func() bool { return !d.publishes })
		}
	}
	for number := range r.known {
		publish(number)
	}
	for number := range r.known {
		for c := range r.gates {
			r.gate(c, r.claimed)
		}
		if d := &threads[number]; d.claim != nil {
			r.within(func() { r.produce(rnd, d, number) }, func() bool { return d.claim == nil })
			publish(number)
		}
	}
}

func runs[W api.Word](t *testing.T, width int) {
	rnd := rand.New(rand.NewSource(204))
	each(t, width, func(r *rig[W]) {
		threads := make([]thread[W], len(r.known)+len(r.up))
		number := 0
		for range 1200 {
			if rnd.Intn(3) > 0 { // else the same thread goes on
				number = rnd.Intn(len(threads))
			}
			if number < len(r.known) {
				r.produce(rnd, &threads[number], number)
			} else {
				r.read(rnd, &threads[number], number-len(r.known))
			}
		}
		taken := r.start
		for _, e := range event.Only(r.log.From(0), api.Take) {
			if e.Pos != uint64(taken) {
				t.Fatal("taken", e, taken)
			}
			taken += W(e.N)
		}
		if taken != r.at(r.claimed) || r.claimed < 8 {
			t.Fatal("hardly anything was claimed", r.claimed)
		}
		r.rest(rnd, threads)
	})
}

// P21.4, P21.5: long runs of up to four producers, and of consumers, some behind others; then each producer goes on alone from wherever it is.
func TestRuns(t *testing.T) {
	runs[uint32](t, 32)
	runs[uint64](t, 64)
}

func alone[W api.Word](t *testing.T, width int) {
	each(t, width, func(r *rig[W]) {
		bound := 4*r.cap + len(r.up) + 8
		for i := range 12 {
			n, number := 1+i*7%r.cap, i%len(r.known)
			for c := range r.up { // so that just that has room
				r.gate(c, max(0, r.claimed+n-r.cap))
			}
			f, c, steps := frame(n, W(0), W(0)), &claim{thread: number, n: n}, 1
			for !r.step(c, &f) {
				if steps++; steps > bound || steps > 1+len(r.ends) {
					t.Fatal("claim", steps)
				}
			}
			r.put = append(r.put, slices.Repeat([]bool{true}, n)...)
			for steps = 1; !r.publish(number, &f); steps++ {
				if steps > bound {
					t.Fatal("publish", steps)
				}
			}
			val := r.slowest()
			g := frame(0, W(0), r.at(val))
			for steps = 1; !r.tip(len(r.known), val, &g); steps++ {
				if val++; steps > bound || steps > r.cap {
					t.Fatal("tip", steps)
				}
			}
		}
	})
}

// P21.5: alone, with room, each call is done within its bound.
func TestAlone(t *testing.T) {
	alone[uint32](t, 32)
	alone[uint64](t, 64)
}

// The chapter's example.
func TestExample(t *testing.T) {
	b, log := boardOf[uint32](confOf(api.Faa, 32, 4, 2, 0, [][]int{nil})), event.NewLog()
	s := New(b, log)
	f, g := api.Frame[uint32]{N: 4}, api.Frame[uint32]{N: 4}
	if !s.Claim(1, &g) || s.Claim(0, &f) || g.From != 0 || f.From != 4 {
		t.Error(f, g)
	}
	for gate := range uint32(4) {
		b.Store(2, 0, gate)
		if s.Claim(0, &f) {
			t.Error("without room", gate)
		}
	}
	b.Store(2, 0, 4)
	if !s.Claim(0, &f) {
		t.Error("with room")
	}
	take, grant := api.Event{Kind: api.Take, Thread: 1, N: 4}, api.Event{Kind: api.Grant, Thread: 1}
	again, later := api.Event{Kind: api.Take, Pos: 4, N: 4}, api.Event{Kind: api.Grant}
	if !event.Same(log.From(0), []api.Event{take, grant, again, later}) {
		t.Error(log.From(0))
	}
}
