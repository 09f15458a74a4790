package event

import (
	"math"
	"math/big"
	"math/rand"
	"slices"
	"strings"
	"testing"

	"sakia/api"
)

// some is one event of each kind, and a few that no fabric notes.
func some() []api.Event {
	return []api.Event{
		{Kind: api.Invoke, Thread: 0, Op: api.Send, Data: []int{5, -6}},
		{Kind: api.Take, Thread: 0, N: 2, Pos: 1<<32 - 1},
		{Kind: api.Grant, Thread: 0},
		{Kind: api.Put, Thread: 0, N: 2, Pos: 1<<32 - 1, Data: []int{5, -6}},
		{Kind: api.Return, Thread: 0, Op: api.Send},
		{Kind: api.Invoke, Thread: 1, Op: api.Receive, N: 3},
		{Kind: api.Seen, Thread: 1, Pos: 1},
		{Kind: api.Free, Thread: 1, Pos: 1},
		{Kind: api.Return, Thread: 1, Op: api.Receive, N: 2, Pos: 1<<32 - 1, Data: []int{5, -6}},
		{Kind: api.Return, Thread: -3, Op: 17, N: math.MinInt, Pos: math.MaxUint64, Code: api.ErrNone, Data: []int{math.MaxInt}},
		{Kind: 8, Thread: math.MaxInt},
		{},
	}
}

// alike tells whether two events are the same, apart from the package's own answer.
func alike(a, b api.Event) bool {
	return a.Kind == b.Kind && a.Thread == b.Thread && a.Op == b.Op && a.N == b.N && a.Pos == b.Pos && a.Code == b.Code &&
		len(a.Data) == len(b.Data) && slices.Equal(a.Data, b.Data)
}

func allAlike(a, b []api.Event) bool {
	return slices.EqualFunc(a, b, alike)
}

// deep is a copy of a list that shares nothing with it.
func deep(l []api.Event) []api.Event {
	var out []api.Event
	for _, e := range l {
		e.Data = slices.Clone(e.Data)
		out = append(out, e)
	}
	return out
}

// spoil writes over all that a list has.
func spoil(l []api.Event) {
	for i := range l {
		for j := range l[i].Data {
			l[i].Data[j] = -77
		}
		l[i] = api.Event{Kind: -1}
	}
}

// answers are all lists that are made of a list, by the call's name.
func answers(l []api.Event) map[string][]api.Event {
	out := map[string][]api.Event{
		"copy":  Copy(l),
		"of":    Of(l, 0),
		"only":  Only(l, api.Put, api.Return),
		"merge": Merge(32, l),
		"shift": Shift(32, 9, l),
	}
	return out
}

// logOf is a log of a list's events.
func logOf(l []api.Event) *Log {
	log := NewLog()
	for _, e := range l {
		log.Note(e)
	}
	return log
}

// P15.1: a new log has none; what is noted is kept, in order, and told from each place on.
func TestLog(t *testing.T) {
	l := NewLog()
	if l == nil || l.Len() != 0 || len(l.From(0)) != 0 || len(l.From(-1)) != 0 || len(l.From(1)) != 0 {
		t.Fatal("new")
	}
	for i, e := range some() {
		l.Note(e)
		if l.Len() != i+1 {
			t.Error(i, l.Len())
		}
	}
	all := some()
	for n := range all {
		if !allAlike(l.From(n), all[n:]) {
			t.Error(n, l.From(n))
		}
	}
	for _, n := range []int{-1, -2, math.MinInt} {
		if !allAlike(l.From(n), all) {
			t.Error(n, l.From(n))
		}
	}
	for _, n := range []int{len(all), len(all) + 1, math.MaxInt} {
		if len(l.From(n)) != 0 {
			t.Error(n, l.From(n))
		}
	}
	if l.Len() != len(all) {
		t.Error(l.Len())
	}
}

// P15.1: a log keeps copies, and tells copies.
func TestLogCopies(t *testing.T) {
	given := some()
	l := logOf(given)
	spoil(given)
	first := l.From(0)
	second := l.From(0)
	spoil(first)
	if !allAlike(second, some()) || !allAlike(l.From(0), some()) {
		t.Error(second, l.From(0))
	}
	given = some()
	l.Note(given[3])
	given[3].Data[1] = 99
	if e := l.From(len(given))[0]; !alike(e, some()[3]) {
		t.Error(e)
	}
}

// P15.1: an event that there is has these Data, and nothing else of it, or of others, is changed.
func TestFill(t *testing.T) {
	for n := range some() {
		for _, data := range [][]int{{7, 8, 9}, {-1}, {}, nil} {
			l := logOf(some())
			told := l.From(0)
			given := slices.Clone(data)
			if !l.Fill(n, given) {
				t.Error(n, data)
			}
			want := some()
			want[n].Data = data
			for i := range given {
				given[i] = 55
			}
			if !allAlike(l.From(0), want) || !allAlike(told, some()) || l.Len() != len(want) {
				t.Error(n, data, l.From(0), told)
			}
		}
	}
}

// P15.1: nothing is filled of an event that there is not.
func TestFillNone(t *testing.T) {
	l := logOf(some())
	for _, n := range []int{-1, -2, math.MinInt, len(some()), len(some()) + 1, math.MaxInt} {
		if l.Fill(n, []int{1}) {
			t.Error(n)
		}
	}
	if !allAlike(l.From(0), some()) {
		t.Error(l.From(0))
	}
	if empty := NewLog(); empty.Fill(0, []int{1}) || empty.Len() != 0 {
		t.Error("empty")
	}
}

// P15.1, P1: nil keeps nothing, and tells nothing.
func TestNil(t *testing.T) {
	var l *Log
	l.Note(some()[0])
	for _, n := range []int{math.MinInt, -1, 0, 1, math.MaxInt} {
		if len(l.From(n)) != 0 || l.Fill(n, []int{1}) {
			t.Error(n)
		}
	}
	if l.Len() != 0 {
		t.Error(l.Len())
	}
}

// P15.1: two logs have nothing in common.
func TestLogsApart(t *testing.T) {
	a, b := NewLog(), NewLog()
	a.Note(some()[0])
	if b.Len() != 0 || a.Len() != 1 {
		t.Error(a.Len(), b.Len())
	}
}

// changes are events that differ from a put in one field each.
func changes() []api.Event {
	e := api.Event{Kind: api.Put, Thread: 1, Op: 2, N: 2, Pos: 9, Code: api.ErrData, Data: []int{3, 4}}
	out := make([]api.Event, 12)
	for i := range out {
		out[i] = e
	}
	out[1].Kind = api.Take
	out[2].Thread = 2
	out[3].Op = 0
	out[4].N = -2
	out[5].Pos = 9 + 1<<32
	out[6].Code = api.OK
	out[7].Data = []int{3, 5}
	out[8].Data = []int{4, 3}
	out[9].Data = []int{3}
	out[10].Data = []int{3, 4, 0}
	out[11].Data = nil
	return out
}

// P15.1: the same are those of which each field is the same.
func TestSame(t *testing.T) {
	all := changes()
	for i, a := range all {
		for j, b := range all {
			if Same([]api.Event{a}, deep([]api.Event{b})) != (i == j) {
				t.Error(a, b)
			}
			if Same([]api.Event{all[0], a, all[1]}, []api.Event{all[0], b, all[1]}) != (i == j) {
				t.Error("in the middle", a, b)
			}
		}
	}
	if !Same(nil, nil) || !Same(nil, []api.Event{}) || !Same(some(), some()) {
		t.Error("same")
	}
	if Same(some(), some()[1:]) || Same(some()[:3], some()) || Same(nil, make([]api.Event, 1)) || Same(make([]api.Event, 1), nil) {
		t.Error("of other lengths")
	}
	if !Same([]api.Event{{Data: []int{}}}, []api.Event{{}}) {
		t.Error("nil and an empty list are one")
	}
}

// P15.1: the same ones; those of a thread; those of some kinds.
func TestPicked(t *testing.T) {
	if !allAlike(Copy(some()), some()) || len(Copy(nil)) != 0 || len(Copy([]api.Event{})) != 0 {
		t.Error(Copy(some()))
	}
	for _, thread := range []int{0, 1, 2, -3, math.MaxInt, math.MinInt} {
		var want []api.Event
		for _, e := range some() {
			if e.Thread == thread {
				want = append(want, e)
			}
		}
		if !allAlike(Of(some(), thread), want) {
			t.Error(thread, Of(some(), thread))
		}
	}
	for _, kinds := range [][]int{nil, {}, {api.Put}, {api.Return, api.Invoke}, {api.Seen, api.Seen}, {0, 8}, {9, -1, math.MinInt}, {1, 2, 3, 4, 5, 6, 7}} {
		var want []api.Event
		for _, e := range some() {
			for _, k := range kinds {
				if e.Kind == k {
					want = append(want, e)
					break
				}
			}
		}
		if !allAlike(Only(some(), kinds...), want) {
			t.Error(kinds, Only(some(), kinds...))
		}
	}
	if len(Of(nil, 0)) != 0 || len(Only(nil, api.Put)) != 0 {
		t.Error("of none")
	}
}

// P15.1, P15.2: whatever is told is new memory, and nothing that is handed in is changed.
func TestAnswersAreNew(t *testing.T) {
	first := answers(some())
	for name := range first {
		given := some()
		again := answers(given)
		if !allAlike(given, some()) {
			t.Error(name, given)
		}
		spoil(again[name])
		if !allAlike(given, some()) {
			t.Error(name, "is of the same memory", given)
		}
		again = answers(given)
		spoil(given)
		if !allAlike(again[name], first[name]) {
			t.Error(name, "is kept", again[name])
		}
	}
	l := []api.Event{{Kind: api.Put, N: 1, Data: append(make([]int, 0, 8), 1)}, {Kind: api.Put, Pos: 1, N: 1, Data: []int{2}}}
	if Merge(32, l); l[0].Data[:2][1] != 0 {
		t.Error("merged into the room behind a list that was handed in")
	}
}

// P15.2: the first Return of the same thread behind an Invoke.
func TestEnds(t *testing.T) {
	l := []api.Event{
		{Kind: api.Return, Thread: 1},
		{Kind: api.Invoke, Thread: 1, Op: api.Claim},
		{Kind: api.Invoke, Thread: 0},
		{Kind: api.Take, Thread: 1},
		{Kind: api.Return, Thread: 0},
		{Kind: api.Return, Thread: 1, Op: api.Send},
		{Kind: api.Return, Thread: 1},
		{Kind: api.Invoke, Thread: 1},
		{Kind: api.Invoke, Thread: 2},
		{Kind: api.Grant, Thread: 1},
		{Kind: api.Return, Thread: 2},
	}
	want := map[int]int{1: 5, 2: 4, 8: 10}
	for _, i := range append(rising(-2, len(l)+2), math.MinInt, math.MaxInt) {
		at, ok := want[i]
		if got, is := Ends(l, i); got != at || is != ok {
			t.Error(i, got, is)
		}
	}
	if at, ok := Ends(nil, 0); at != 0 || ok {
		t.Error(at, ok)
	}
	if at, ok := Ends([]api.Event{{Kind: api.Invoke}, {Kind: api.Return}}, 0); at != 1 || !ok {
		t.Error(at, ok)
	}
}

// rising is the numbers from one to below another one.
func rising(from, to int) []int {
	var out []int
	for i := from; i < to; i++ {
		out = append(out, i)
	}
	return out
}

// put is a put by a thread of some data.
func put(thread int, pos uint64, data ...int) api.Event {
	return api.Event{Kind: api.Put, Thread: thread, Pos: pos, N: len(data), Data: data}
}

// P15.2: puts of one thread that go on are one.
func TestMerge(t *testing.T) {
	take := api.Event{Kind: api.Take, Thread: 0, Pos: 2, N: 1}
	for _, c := range []struct {
		width int
		l     []api.Event
		want  []api.Event
	}{
		{32, nil, nil},
		{32, []api.Event{put(0, 7, 1)}, []api.Event{put(0, 7, 1)}},
		{32, []api.Event{put(0, 7, 1), put(0, 8, 2)}, []api.Event{put(0, 7, 1, 2)}},
		{64, []api.Event{put(0, 7, 1), put(0, 8, 2, 3), put(0, 10, 4), put(0, 11, 5)}, []api.Event{put(0, 7, 1, 2, 3, 4, 5)}},
		{32, []api.Event{put(0, 1<<32-1, 1), put(0, 0, 2, 3)}, []api.Event{put(0, 1<<32-1, 1, 2, 3)}},
		{64, []api.Event{put(0, 1<<32-1, 1), put(0, 0, 2)}, []api.Event{put(0, 1<<32-1, 1), put(0, 0, 2)}},
		{64, []api.Event{put(0, 1<<64-2, 1, 2), put(0, 0, 3)}, []api.Event{put(0, 1<<64-2, 1, 2, 3)}},
		{64, []api.Event{put(0, 1<<32-1, 1), put(0, 1<<32, 2)}, []api.Event{put(0, 1<<32-1, 1, 2)}},
		{32, []api.Event{put(0, 7, 1), put(1, 8, 2)}, []api.Event{put(0, 7, 1), put(1, 8, 2)}},
		{32, []api.Event{put(0, 7, 1), put(0, 9, 2), put(0, 10, 3)}, []api.Event{put(0, 7, 1), put(0, 9, 2, 3)}},
		{32, []api.Event{put(0, 7, 1), put(0, 7, 2)}, []api.Event{put(0, 7, 1), put(0, 7, 2)}},
		{32, []api.Event{put(0, 8, 1), put(0, 7, 2)}, []api.Event{put(0, 8, 1), put(0, 7, 2)}},
		{32, []api.Event{put(0, 1, 1), take, put(0, 2, 2)}, []api.Event{put(0, 1, 1), take, put(0, 2, 2)}},
		{32, []api.Event{put(0, 1, 1), put(1, 5, 9), put(0, 2, 2)}, []api.Event{put(0, 1, 1), put(1, 5, 9), put(0, 2, 2)}},
		{32, []api.Event{put(0, 1, 1), take, take, put(0, 3, 2), put(0, 4, 3)}, []api.Event{put(0, 1, 1), take, take, put(0, 3, 2, 3)}},
		{32, []api.Event{take, {Kind: api.Take, Pos: 3, N: 1}}, []api.Event{take, {Kind: api.Take, Pos: 3, N: 1}}},
		{32, []api.Event{take, put(0, 3, 1)}, []api.Event{take, put(0, 3, 1)}},
		{32, []api.Event{put(0, 1, 1), take}, []api.Event{put(0, 1, 1), take}},
		{32, []api.Event{{Kind: api.Put, N: 2, Pos: 4}, {Kind: api.Put, N: 3, Pos: 6}}, []api.Event{{Kind: api.Put, N: 5, Pos: 4}}},
		{32, []api.Event{put(-1, 3), put(-1, 3, 8)}, []api.Event{put(-1, 3, 8)}},
	} {
		if got := Merge(c.width, c.l); !allAlike(got, c.want) {
			t.Error(c.width, c.l, got, c.want)
		}
	}
}

// wrongWidths are some that there are not.
func wrongWidths() []int {
	return []int{0, 1, 16, 31, 33, 63, 65, -32, math.MinInt, math.MaxInt}
}

// P15.2, P1: of a width that there is not nothing is told.
func TestWrongWidths(t *testing.T) {
	for _, width := range wrongWidths() {
		if len(Merge(width, some())) != 0 || len(Shift(width, 0, some())) != 0 {
			t.Error(width)
		}
	}
}

// power is 2^k.
func power(k int) *big.Int {
	return new(big.Int).Lsh(big.NewInt(1), uint(k))
}

// end is where a put ends.
func end(width int, e api.Event) uint64 {
	s := new(big.Int).SetUint64(e.Pos)
	return s.Add(s, big.NewInt(int64(e.N))).Mod(s, power(width)).Uint64()
}

// merged joins the first two neighbours that go on, again and again, till there are none.
func merged(width int, l []api.Event) []api.Event {
	out := deep(l)
	for i := 1; i < len(out); {
		a, b := out[i-1], out[i]
		if a.Kind != api.Put || b.Kind != api.Put || a.Thread != b.Thread || end(width, a) != b.Pos {
			i++
			continue
		}
		a.N, a.Data = a.N+b.N, slices.Concat(a.Data, b.Data)
		out = slices.Replace(out, i-1, i+1, a)
		i = 1
	}
	return out
}

// puts is how many positions are put.
func puts(l []api.Event) int {
	n := 0
	for _, e := range l {
		if e.Kind == api.Put {
			n += e.N
		}
	}
	return n
}

// random is a list of events, many of which are puts that go on.
func random(r *rand.Rand, width int) []api.Event {
	pos := []uint64{0, 1<<32 - 3, 1<<64 - 3}[r.Intn(3)]
	if width == 32 {
		pos %= 1 << 32
	}
	var out []api.Event
	for range r.Intn(30) {
		e := put(r.Intn(8)/7, pos)
		e.Kind = []int{api.Put, api.Put, api.Put, api.Put, api.Put, api.Put, 1 + r.Intn(7)}[r.Intn(7)]
		for range r.Intn(4) {
			e.Data = append(e.Data, r.Intn(100)-50)
		}
		e.N = len(e.Data)
		pos = end(width, e)
		if r.Intn(8) == 0 {
			pos = end(width, api.Event{Pos: pos, N: r.Intn(3) - 1})
		}
		out = append(out, e)
	}
	return out
}

// P15.2, P15.4: many lists, held against a merging that begins anew each time; merged once more nothing changes, and as many are put.
func TestMergeMany(t *testing.T) {
	r := rand.New(rand.NewSource(15))
	fewer := 0
	for i := range 3000 {
		width := 32 << (i % 2)
		l := random(r, width)
		got := Merge(width, l)
		if want := merged(width, l); !allAlike(got, want) {
			t.Fatal(width, l, got, want)
		}
		if again := Merge(width, got); !allAlike(again, got) {
			t.Fatal("once more", width, got, again)
		}
		if puts(got) != puts(l) {
			t.Fatal(width, puts(got), puts(l))
		}
		fewer += len(l) - len(got)
	}
	if fewer < 3000 {
		t.Error("hardly anything was merged", fewer)
	}
}

// lead is by how much a position leads another one, modulo 2^64.
func lead(width int, pos, from uint64) uint64 {
	d := new(big.Int).Sub(new(big.Int).SetUint64(pos), new(big.Int).SetUint64(from))
	d.Mod(d, power(width))
	if d.Cmp(power(width-1)) >= 0 {
		d.Sub(d, power(width))
	}
	return d.Mod(d, power(64)).Uint64()
}

// moved are events whose Pos is a position.
func moved(pos uint64) []api.Event {
	return []api.Event{
		{Kind: api.Take, Thread: 1, N: 2, Pos: pos},
		{Kind: api.Put, Thread: 1, N: 2, Pos: pos, Data: []int{4, 5}},
		{Kind: api.Seen, Thread: 2, Pos: pos},
		{Kind: api.Free, Thread: 2, Pos: pos},
		{Kind: api.Return, Thread: 1, Op: api.Claim, N: 2, Pos: pos},
		{Kind: api.Return, Thread: 2, Op: api.Receive, N: 1, Pos: pos, Data: []int{6}},
	}
}

// left are events that have no position, but something where one could stand.
func left(pos uint64) []api.Event {
	l := []api.Event{
		{Kind: api.Grant, Thread: 1, Pos: pos},
		{Kind: api.Return, Thread: 2, Op: api.Receive, N: 0, Pos: pos},
		{Kind: api.Return, Thread: 2, Op: api.Receive, N: -1, Pos: pos},
		{Kind: api.Return, Thread: 2, Op: api.Receive, Code: api.ErrSize, Pos: pos},
		{Kind: api.Return, Thread: 1, Op: api.Claim, Code: api.ErrSize, Pos: pos},
		{Kind: 0, Pos: pos}, {Kind: 8, Pos: pos}, {Kind: -1, Pos: pos}, {Kind: math.MaxInt, Pos: pos},
	}
	for op := -1; op < 9; op++ {
		l = append(l, api.Event{Kind: api.Invoke, Op: op, N: 3, Pos: pos, Data: []int{1}})
		if op != api.Claim && op != api.Receive {
			l = append(l, api.Event{Kind: api.Return, Op: op, N: 3, Pos: pos})
		}
	}
	return l
}

// P15.2: positions are told by how far they lead; all else stays.
func TestShift(t *testing.T) {
	edges := []uint64{0, 1, 5, 1<<31 - 1, 1 << 31, 1<<31 + 1, 1<<32 - 3, 1<<32 - 1, 1 << 32, 7<<32 + 9, 1<<63 - 1, 1 << 63, 1<<63 + 2, 1<<64 - 1}
	for _, width := range []int{32, 64} {
		for _, from := range edges {
			for _, pos := range edges {
				want := slices.Concat(moved(lead(width, pos, from)), left(pos))
				if got := Shift(width, from, slices.Concat(moved(pos), left(pos))); !allAlike(got, want) {
					t.Error(width, from, pos, got, want)
				}
			}
		}
		if len(Shift(width, 3, nil)) != 0 {
			t.Error("of none")
		}
	}
}

// P15.2: a Claim that was refused looks the same from wherever positions are counted, in both widths.
func TestShiftRefused(t *testing.T) {
	refused := []api.Event{{Kind: api.Return, Op: api.Claim, Code: api.ErrSize}}
	for _, from := range []uint64{0, 5, 1<<32 - 3, 1 << 40} {
		if a, b := Shift(32, from, refused), Shift(64, from, refused); !allAlike(a, refused) || !allAlike(b, refused) {
			t.Error(from, a, b)
		}
	}
}

// asked tells whether words and numbers belong together, from 1 on, and nothing else does.
func asked(t *testing.T, want string, word func(int) string, number func(string) int) {
	all := append([]string{""}, strings.Fields(want)...)
	for i, w := range all {
		if word(i) != w || number(w) != i {
			t.Error(i, w, word(i), number(w))
		}
	}
	for _, i := range []int{-1, -2, len(all), len(all) + 1, 255, 256, math.MinInt, math.MaxInt} {
		if word(i) != "" {
			t.Error(i, word(i))
		}
	}
	for _, w := range []string{" ", "x", "Put", "put ", " claim", "clai", "claims", "step", "0", "1", ".", "\x00", strings.Repeat("put", 9)} {
		if number(w) != 0 {
			t.Error(w, number(w))
		}
	}
}

// P15.3: each kind and each op has one word, and others have none.
func TestWords(t *testing.T) {
	asked(t, "invoke return take grant put seen free", Word, Kind)
	asked(t, "claim publish avail release send receive", OpWord, Op)
	if Kind("claim") != 0 || Op("take") != 0 {
		t.Error("kinds and ops are apart")
	}
}

// The chapter's example.
func TestExample(t *testing.T) {
	got := Merge(32, []api.Event{put(0, 1<<32-1, 7), put(0, 0, 8, 9)})
	if !allAlike(got, []api.Event{put(0, 1<<32-1, 7, 8, 9)}) {
		t.Error(got)
	}
}
