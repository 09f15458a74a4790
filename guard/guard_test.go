package guard

import (
	"math"
	"math/rand"
	"testing"

	"sakia/api"
	"sakia/span"
	"sakia/wide"
)

// ops are all that calls may have as Op, and some that none has.
func ops() []int {
	return []int{math.MinInt, -1, 0, api.Claim, api.Publish, api.Avail, api.Release, api.Send, api.Receive, 7, math.MaxInt}
}

// sizes are edges of how many, for a capacity and how many are ready.
func sizes(cap, ready int) []int {
	return []int{math.MinInt, -1, 0, 1, 2, ready - 1, ready, ready + 1, cap - 1, cap, cap + 1, math.MaxInt}
}

// starts are where counters begin: some go round soon, some change their sign.
func starts[W api.Word]() []W {
	return []W{0, 7, 1<<31 - 2, 1<<32 - 3, wide.Of[W](1<<63 - 2), wide.Of[W](1<<64 - 3), wide.Of[W](1<<64 - 1)}
}

// state is what can be asked of a handle, but May.
type state[W api.Word] struct {
	claimed    span.Span[W]
	has        bool
	gate, upto W
	ready      int
}

func stateOf[W api.Word](h *Handle[W]) state[W] {
	s, has := h.Span()
	return state[W]{s, has, h.Gate(), h.Upto(), h.Ready()}
}

// within tells whether a size is from 1 to another one.
func within(n, most int) bool {
	return 1 <= n && n <= most
}

// want is what the chapter says of a call, line by line.
func want(consumer bool, cap int, has bool, ready int, c api.Call) api.Errno {
	switch {
	case !consumer && c.Op == api.Claim && !within(c.N, cap):
		return api.ErrSize
	case !consumer && c.Op == api.Send && !within(len(c.Data), cap):
		return api.ErrSize
	case !consumer && (c.Op == api.Claim || c.Op == api.Send) && has:
		return api.ErrState
	case !consumer && c.Op == api.Publish && !has:
		return api.ErrState
	case consumer && c.Op == api.Release && !within(c.N, ready):
		return api.ErrSize
	case consumer && c.Op == api.Receive && !within(c.N, cap):
		return api.ErrSize
	case consumer && (c.Op == api.Avail || c.Op == api.Release || c.Op == api.Receive):
		return api.OK
	case !consumer && (c.Op == api.Claim || c.Op == api.Publish || c.Op == api.Send):
		return api.OK
	}
	return api.ErrOp
}

// asked asks May of all ops, with sizes and data at their edges; N doesn't count where Data do, nor the other way round.
func asked[W api.Word](t *testing.T, h *Handle[W], consumer bool, cap int) {
	t.Helper()
	before := stateOf(h)
	for _, op := range ops() {
		for _, n := range sizes(cap, before.ready) {
			for _, data := range [][]int{nil, {}, {5}, {5, -6}, make([]int, min(cap, 9)), make([]int, min(cap, 9)+1)} {
				c := api.Call{Op: op, N: n, Data: data}
				w := want(consumer, cap, before.has, before.ready, c)
				// P14.4: asked twice, it tells the same.
				if got, again := h.May(c), h.May(c); got != w || again != w {
					t.Error(consumer, cap, before, c, got, again, w)
				}
			}
		}
	}
	if stateOf(h) != before {
		t.Error("changed", before, stateOf(h))
	}
}

// made asks of handles just made.
func made[W api.Word](t *testing.T) {
	for _, cap := range []int{2, 4, 8, 64, 1 << 30} {
		p := Producer[W](cap)
		if p == nil || stateOf(p) != (state[W]{}) {
			t.Fatal(cap)
		}
		asked(t, p, false, cap)
		for _, start := range starts[W]() {
			c := Consumer(cap, start)
			if c == nil || stateOf(c) != (state[W]{gate: start, upto: start}) {
				t.Fatal(cap, start)
			}
			asked(t, c, true, cap)
		}
	}
	for _, cap := range []int{math.MinInt, -2, -1, 0, 1, 3, 5, 6, 1<<30 - 1, 1<<30 + 1, 1 << 31, 1 << 62, math.MaxInt} {
		if Producer[W](cap) != nil || Consumer[W](cap, 5) != nil {
			t.Error(cap)
		}
	}
}

// P14.1: what handles are at first, what they may, and capacities that aren't right.
func TestMade(t *testing.T) {
	made[uint32](t)
	made[uint64](t)
}

// none asks a handle that there is not.
func none[W api.Word](t *testing.T) {
	var h *Handle[W]
	for _, op := range ops() {
		if h.May(api.Call{Op: op, N: 1, Data: []int{1}}) != api.ErrNil {
			t.Error(op)
		}
	}
	for _, n := range []int{math.MinInt, -1, 0, 1, math.MaxInt} {
		if h.Released(n) || h.Claimed(span.Span[W]{N: n}) {
			t.Error(n)
		}
	}
	if h.Published() || h.Saw(0) || h.Saw(1) || stateOf(h) != (state[W]{}) {
		t.Error("nil")
	}
}

// P14.1, P14.2, P1: of nil.
func TestNil(t *testing.T) {
	none[uint32](t)
	none[uint64](t)
}

// claims takes a producer through claiming and publishing, with what it may not be told.
func claims[W api.Word](t *testing.T) {
	for _, cap := range []int{2, 4, 1 << 30} {
		h := Producer[W](cap)
		for _, from := range starts[W]() {
			free := state[W]{}
			for _, n := range []int{math.MinInt, -1, 0, cap + 1, math.MaxInt} {
				if h.Claimed(span.Span[W]{From: from, N: n}) || h.Published() || stateOf(h) != free {
					t.Error(cap, from, n)
				}
			}
			for _, n := range []int{1, cap - 1, cap} {
				s := span.Span[W]{From: from, N: n}
				held := state[W]{claimed: s, has: true}
				if !h.Claimed(s) || stateOf(h) != held {
					t.Error(cap, s, stateOf(h))
				}
				if h.Claimed(s) || h.Claimed(span.Span[W]{From: 1, N: 1}) || h.Saw(0) || h.Saw(1) || h.Released(0) || h.Released(1) || stateOf(h) != held {
					t.Error("told", cap, s, stateOf(h))
				}
				asked(t, h, false, cap)
				if !h.Published() || stateOf(h) != free || h.Published() {
					t.Error("published", cap, s, stateOf(h))
				}
			}
			asked(t, h, false, cap)
		}
	}
}

// P14.2: what a producer is told, and when that is not so.
func TestClaims(t *testing.T) {
	claims[uint32](t)
	claims[uint64](t)
}

// looks tells a consumer each of what it may see, and what it may not.
func looks[W api.Word](t *testing.T) {
	for _, cap := range []int{2, 8, 1 << 30} {
		for _, start := range starts[W]() {
			for _, seen := range []int{0, 1, cap - 1, cap} {
				for _, lead := range []int{math.MinInt32, -cap, -1, 0, 1, seen - 1, seen, seen + 1, cap - 1, cap, cap + 1, 2 * cap, math.MaxInt32} {
					h := Consumer(cap, start)
					if !h.Saw(wide.Add(start, seen)) {
						t.Fatal(cap, start, seen)
					}
					now, may := state[W]{gate: start, upto: wide.Add(start, seen), ready: seen}, seen <= lead && lead <= cap
					if stateOf(h) != now {
						t.Error(cap, start, seen, stateOf(h))
					}
					if may {
						now.upto, now.ready = wide.Add(start, lead), lead
					}
					if h.Saw(wide.Add(start, lead)) != may || stateOf(h) != now {
						t.Error(cap, start, seen, lead, stateOf(h))
					}
					asked(t, h, true, cap)
				}
			}
		}
	}
}

// P14.2: what a consumer sees leads its gate by from Ready to a capacity.
func TestLooks(t *testing.T) {
	looks[uint32](t)
	looks[uint64](t)
}

// P14.2: half of the counters of 64 digits away nothing can be seen, either.
func TestLooksFar(t *testing.T) {
	for _, upto := range []uint64{5 + 1<<32, 5 + 1<<62, 5 + 1<<63 - 1, 5 + 1<<63, 5 + 1<<63 + 1, 4, math.MaxUint64} {
		h := Consumer(1<<30, uint64(5))
		if h.Saw(upto) || h.Upto() != 5 {
			t.Error(upto)
		}
	}
}

// frees has a consumer release all numbers, right and wrong.
func frees[W api.Word](t *testing.T) {
	for _, start := range starts[W]() {
		for seen := range 5 {
			for _, n := range sizes(4, seen) {
				h := Consumer(4, start)
				h.Saw(wide.Add(start, seen))
				now, may := stateOf(h), within(n, seen)
				if may {
					now.gate, now.ready = wide.Add(start, n), seen-n
				}
				if h.Released(n) != may || stateOf(h) != now {
					t.Error(start, seen, n, stateOf(h))
				}
				asked(t, h, true, 4)
			}
		}
	}
}

// P14.2: a release is from 1 to Ready, and moves the gate alone.
func TestFrees(t *testing.T) {
	frees[uint32](t)
	frees[uint64](t)
}

// P14.2: a consumer claims and publishes nothing.
func TestConsumerClaims(t *testing.T) {
	h := Consumer(4, uint32(7))
	h.Saw(9)
	before := stateOf(h)
	for _, n := range []int{-1, 0, 1, 4, 5} {
		if h.Claimed(span.Span[uint32]{From: 7, N: n}) || h.Published() || stateOf(h) != before {
			t.Error(n, stateOf(h))
		}
	}
}

// long leads a consumer over the end of its counters, held against plain sums from its start on.
func long[W api.Word](t *testing.T, start W, cap int, r *rand.Rand) {
	h := Consumer(cap, start)
	gate, seen := 0, 0
	for range 400 {
		upto, n := gate-2+r.Intn(cap+5), r.Intn(cap+2)
		sees := seen <= upto && upto <= gate+cap
		if h.Saw(wide.Add(start, upto)) != sees {
			t.Fatal(start, cap, gate, seen, upto)
		}
		if sees {
			seen = upto
		}
		frees := within(n, seen-gate)
		if (h.May(api.Call{Op: api.Release, N: n}) == api.OK) != frees || h.Released(n) != frees {
			t.Fatal(start, cap, gate, seen, n)
		}
		if frees {
			gate += n
		}
		// P14.3: seen only goes on, at most a capacity ahead of the gate.
		if stateOf(h) != (state[W]{gate: wide.Add(start, gate), upto: wide.Add(start, seen), ready: seen - gate}) || !(0 <= h.Ready() && h.Ready() <= cap) {
			t.Fatal(start, cap, gate, seen, stateOf(h))
		}
	}
	if gate < 50 {
		t.Error("stood still", gate)
	}
}

// P14.3: long runs, wherever the counters go round.
func TestLong(t *testing.T) {
	r := rand.New(rand.NewSource(141))
	for _, cap := range []int{2, 4, 16} {
		for _, start := range starts[uint32]() {
			long(t, start, cap, r)
		}
		for _, start := range starts[uint64]() {
			long(t, start, cap, r)
		}
	}
}

// Rules 4 and 6: what is asked is not changed, and two handles have nothing in common.
func TestApart(t *testing.T) {
	data := []int{3, 4}
	a, b := Producer[uint64](4), Producer[uint64](4)
	if a.May(api.Call{Op: api.Send, Data: data}) != api.OK || data[0] != 3 || data[1] != 4 {
		t.Error(data)
	}
	s := span.Span[uint64]{From: 2, N: 3}
	a.Claimed(s)
	s.From = 9
	if got, _ := a.Span(); got.From != 2 || stateOf(b) != (state[uint64]{}) {
		t.Error(got, stateOf(b))
	}
}

// The chapter's example.
func TestExample(t *testing.T) {
	h := Consumer(4, uint64(7))
	if !h.Saw(10) {
		t.Error("saw")
	}
	if h.May(api.Call{Op: api.Release, N: 4}) != api.ErrSize || h.May(api.Call{Op: api.Release, N: 3}) != api.OK {
		t.Error("may")
	}
	if !h.Released(3) || h.Gate() != 10 {
		t.Error(h.Gate())
	}
}
