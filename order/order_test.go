package order

import (
	"math"
	"math/rand"
	"slices"
	"testing"

	"sakia/api"
	"sakia/pair"
	"sakia/tick"
)

// kinds is what the chapter says of each kind: atomic, writes, reads.
func kinds() map[int][3]bool {
	return map[int][3]bool{
		api.Load: {true, false, true}, api.Store: {true, true, false}, api.Add: {true, true, true}, api.Swap: {true, true, true},
		api.Miss: {true, false, true}, api.Read: {false, false, true}, api.Write: {false, true, false},
	}
}

// source looks for a source by going through the list from its front.
func source(l []api.Access, i int) int {
	of, from := kinds(), -1
	if !of[l[i].Kind][2] {
		return -1
	}
	for j, a := range l[:i] {
		if a.Cell == l[i].Cell && of[a.Kind][1] && of[a.Kind][0] == of[l[i].Kind][0] {
			from = j
		}
	}
	return from
}

// reach is which accesses stand behind which, by the chapter's words: straight, and then on and on.
func reach(l []api.Access) [][]bool {
	behind := make([][]bool, len(l))
	for i, a := range l {
		behind[i] = make([]bool, len(l))
		straight := []int{}
		for j := i - 1; j >= 0; j-- {
			if l[j].Thread == a.Thread {
				straight = append(straight, j)
				break
			}
		}
		if from := source(l, i); from >= 0 && kinds()[a.Kind][0] {
			straight = append(straight, from)
		}
		for _, j := range straight {
			behind[i][j] = true
			for k := range j {
				behind[i][k] = behind[i][k] || behind[j][k]
			}
		}
	}
	return behind
}

// clocks counts, of each thread, those that each stands behind, and itself.
func clocks(n int, l []api.Access) [][]int {
	behind, out := reach(l), make([][]int, len(l))
	for i := range l {
		out[i] = make([]int, n)
		for j := range l {
			if i == j || behind[i][j] {
				out[i][l[j].Thread]++
			}
		}
	}
	return out
}

// race goes through all pairs, the later one from the front on, then the earlier one.
func race(l []api.Access) (int, int, bool) {
	behind, of := reach(l), kinds()
	for j := range l {
		for i := range j {
			a, b := l[i], l[j]
			if !of[a.Kind][0] && !of[b.Kind][0] && a.Cell == b.Cell && a.Thread != b.Thread && (of[a.Kind][1] || of[b.Kind][1]) && !behind[j][i] {
				return i, j, true
			}
		}
	}
	return 0, 0, false
}

// counts counts each thread's accesses of both sorts.
func counts(n int, l []api.Access) []complex128 {
	out := make([]complex128, n)
	for _, a := range l {
		if kinds()[a.Kind][0] {
			out[a.Thread] += 1
		} else {
			out[a.Thread] += 1i
		}
	}
	return out
}

func sameLists(a, b [][]int) bool {
	return slices.EqualFunc(a, b, func(x, y []int) bool { return slices.Equal(x, y) })
}

// hold holds all that is told of a right list against what is reckoned above.
func hold(t *testing.T, n int, l []api.Access) {
	t.Helper()
	kept := slices.Clone(l)
	if !Right(n, l) {
		t.Fatal("not right", n, l)
	}
	if got := Clocks(n, l); !sameLists(got, clocks(n, l)) {
		t.Fatal("clocks", n, l, got)
	}
	behind := reach(l)
	for i := range l {
		if got := Source(l, i); got != source(l, i) {
			t.Fatal("source", l, i, got)
		}
		for j := range l {
			if got := Behind(n, l, i, j); got != behind[i][j] {
				t.Fatal("behind", n, l, i, j, got)
			}
		}
	}
	i, j, found := Race(n, l)
	if wi, wj, want := race(l); i != wi || j != wj || found != want {
		t.Fatal("race", n, l, i, j, found, wi, wj, want)
	}
	if got := Counts(n, l); !slices.Equal(got, counts(n, l)) {
		t.Fatal("counts", n, l, got)
	}
	if !slices.Equal(l, kept) {
		t.Fatal("changed", l, kept)
	}
}

// some is a list by a source of lots, of few threads and cells, so that much meets.
func some(r *rand.Rand, n, cells, length int) []api.Access {
	l := make([]api.Access, length)
	for i := range l {
		l[i] = api.Access{Thread: r.Intn(n), Kind: 1 + r.Intn(7), Cell: r.Intn(cells), Old: r.Uint64(), New: r.Uint64()}
	}
	return l
}

// split is a list whose cells below 2 are just atomic, the others just plain, as a fabric's are.
func split(r *rand.Rand, n, length int) []api.Access {
	l := some(r, n, 2, length)
	for i := range l {
		if l[i].Kind >= api.Read {
			l[i].Cell += 2
		}
	}
	return l
}

// P13.1: what each kind does, and none else does anything.
func TestKinds(t *testing.T) {
	for kind := -3; kind < 20; kind++ {
		if want := kinds()[kind]; Writes(kind) != want[1] || Reads(kind) != want[2] {
			t.Error(kind, Writes(kind), Reads(kind))
		}
	}
	for _, kind := range []int{math.MinInt, math.MaxInt} {
		if Writes(kind) || Reads(kind) {
			t.Error(kind)
		}
	}
}

// P13.1: which lists are right, at all edges; the values don't matter.
func TestRight(t *testing.T) {
	for _, n := range []int{math.MinInt, -1, 0, 11, math.MaxInt} {
		if Right(n, nil) || Right(n, []api.Access{{Kind: api.Load}}) {
			t.Error(n)
		}
	}
	for n := 1; n <= 10; n++ {
		good := []api.Access{{Kind: api.Load, Old: 9, New: math.MaxUint64}, {Thread: n - 1, Kind: api.Write, Cell: math.MaxInt}}
		if !Right(n, nil) || !Right(n, []api.Access{}) || !Right(n, good) {
			t.Error(n)
		}
		for _, bad := range wrong(n) {
			for _, l := range [][]api.Access{{bad}, append(slices.Clone(good), bad), append([]api.Access{bad}, good...)} {
				if Right(n, l) {
					t.Error(n, l)
				}
			}
		}
	}
}

// wrong are accesses that stand in no right list of n threads.
func wrong(n int) []api.Access {
	return []api.Access{
		{Thread: -1, Kind: 1}, {Thread: n, Kind: 1}, {Thread: math.MinInt, Kind: 6}, {Thread: math.MaxInt, Kind: 6},
		{Kind: 0}, {Kind: -1}, {Kind: 8}, {Kind: math.MinInt}, {Kind: math.MaxInt},
		{Kind: 1, Cell: -1}, {Kind: 7, Cell: math.MinInt},
	}
}

// P13.1, P1: of a list that isn't right nothing is told, wherever the wrong one stands.
func TestWrong(t *testing.T) {
	racing := []api.Access{{Kind: api.Write, Cell: 5}, {Kind: api.Write, Cell: 5}, {Thread: 1, Kind: api.Read, Cell: 5}}
	if !Behind(2, racing, 1, 0) {
		t.Fatal("behind")
	}
	silent := func(n int, l []api.Access) {
		i, j, found := Race(n, l)
		if len(Clocks(n, l)) != 0 || Behind(n, l, 1, 0) || Behind(n, l, 2, 1) || i != 0 || j != 0 || found || len(Counts(n, l)) != 0 {
			t.Error(n, l)
		}
	}
	for _, bad := range wrong(2) {
		silent(2, append(slices.Clone(racing), bad))
		silent(2, append([]api.Access{racing[0], bad}, racing[1:]...))
		silent(2, append([]api.Access{bad}, racing...))
	}
	for _, n := range []int{math.MinInt, -1, 0, 1, 11, math.MaxInt} {
		silent(n, racing)
		if n != 1 {
			silent(n, nil)
		}
	}
}

// P13.1, P13.2: of no accesses none is told, but the counts of the threads.
func TestEmpty(t *testing.T) {
	for n := 1; n <= 10; n++ {
		for _, l := range [][]api.Access{nil, {}} {
			_, _, found := Race(n, l)
			if len(Clocks(n, l)) != 0 || found || !slices.Equal(Counts(n, l), make([]complex128, n)) || Behind(n, l, 0, 0) || len(Cells(l)) != 0 || Source(l, 0) != -1 {
				t.Error(n)
			}
		}
	}
}

// P13.1: a source is asked of any list: of those that aren't right, and of places that aren't there.
func TestSourceAny(t *testing.T) {
	l := []api.Access{
		{Thread: -7, Kind: api.Store, Cell: -2}, {Thread: 99, Kind: api.Write, Cell: -2}, {Kind: 12, Cell: -2},
		{Thread: 40, Kind: api.Load, Cell: -2}, {Thread: math.MaxInt, Kind: api.Read, Cell: -2}, {Kind: 0, Cell: -2}, {Kind: api.Load, Cell: 2},
	}
	want := []int{-1, -1, -1, 0, 1, -1, -1}
	for i := range l {
		if got := Source(l, i); got != want[i] {
			t.Error(i, got)
		}
	}
	for _, i := range []int{math.MinInt, -1, len(l), len(l) + 1, math.MaxInt} {
		if got := Source(l, i); got != -1 {
			t.Error(i, got)
		}
	}
	if Source(nil, 0) != -1 {
		t.Error("nil")
	}
}

// P13.1: who has whom as a source: the last writer of the cell, atomic or plain as it is itself, never itself.
func TestSource(t *testing.T) {
	for read, of := range kinds() {
		for write, by := range kinds() {
			l := []api.Access{{Kind: write, Cell: 3}, {Kind: write, Cell: 3}, {Kind: write, Cell: 4}, {Thread: 1, Kind: read, Cell: 3}, {Kind: write, Cell: 3}}
			want := -1
			if of[2] && by[1] && of[0] == by[0] {
				want = 1
			}
			if got := Source(l, 3); got != want {
				t.Error(read, write, got)
			}
		}
	}
}

// P13.1: the cells, each once, rising, of any list.
func TestCells(t *testing.T) {
	l := []api.Access{{Kind: 1, Cell: 7}, {Kind: 6, Cell: 2}, {Kind: 3, Cell: 7}, {Kind: 7, Cell: math.MaxInt}, {Thread: 9, Kind: 5, Cell: 0}}
	kept := slices.Clone(l)
	if got := Cells(l); !slices.Equal(got, []int{0, 2, 7, math.MaxInt}) {
		t.Error(got)
	}
	if !slices.Equal(l, kept) {
		t.Error(l)
	}
	if got := Cells(append(l, api.Access{Thread: -1, Cell: -4})); !slices.Equal(got, []int{-4, 0, 2, 7, math.MaxInt}) {
		t.Error(got)
	}
	r := rand.New(rand.NewSource(131))
	for range 200 {
		l := some(r, 3, 40, r.Intn(60))
		var want []int
		for cell := range 40 {
			if slices.ContainsFunc(l, func(a api.Access) bool { return a.Cell == cell }) {
				want = append(want, cell)
			}
		}
		if got := Cells(l); !slices.Equal(got, want) {
			t.Error(l, got)
		}
	}
}

// P13.2: all lists of three accesses by two threads to two cells.
func TestSmall(t *testing.T) {
	var all []api.Access
	for thread := range 2 {
		for kind := 1; kind <= 7; kind++ {
			for cell := range 2 {
				all = append(all, api.Access{Thread: thread, Kind: kind, Cell: cell})
			}
		}
	}
	for _, a := range all {
		hold(t, 2, []api.Access{a})
		for _, b := range all {
			hold(t, 2, []api.Access{a, b})
			for _, c := range all {
				hold(t, 2, []api.Access{a, b, c})
			}
		}
	}
}

// P13.2: lists of all numbers of threads, with cells used in one way and in both.
func TestMany(t *testing.T) {
	r := rand.New(rand.NewSource(132))
	for n := 1; n <= 10; n++ {
		for range 60 {
			hold(t, n, some(r, n, 1+r.Intn(4), r.Intn(30)))
			hold(t, n, split(r, n, r.Intn(30)))
		}
	}
}

// P13.2: a race that is told is the one with the least later one, then with the least earlier one.
func TestRaceFirst(t *testing.T) {
	write := func(thread int) api.Access { return api.Access{Thread: thread, Kind: api.Write, Cell: 4} }
	read := func(thread int) api.Access { return api.Access{Thread: thread, Kind: api.Read, Cell: 4} }
	store, load := api.Access{Thread: 1, Kind: api.Store}, api.Access{Thread: 2, Kind: api.Load}
	for _, c := range []struct {
		l    []api.Access
		i, j int
	}{
		{[]api.Access{write(0), write(0), read(1), write(2)}, 0, 2},
		{[]api.Access{read(0), read(1), read(1), write(2)}, 0, 3},
		{[]api.Access{read(1), read(0), write(1)}, 1, 2},
		{[]api.Access{read(1), store, load, read(0), write(1), write(2)}, 3, 4},
		// The load knows the first read, so that just what came behind the store races.
		{[]api.Access{read(1), store, read(1), load, write(2)}, 2, 4},
	} {
		if i, j, found := Race(3, c.l); !found || i != c.i || j != c.j {
			t.Error(c.l, i, j, found)
		}
	}
}

// P13.2: which pairs race at all, if nothing is handed on.
func TestRaceKinds(t *testing.T) {
	for first, a := range kinds() {
		for second, b := range kinds() {
			want := !a[0] && !b[0] && (a[1] || b[1])
			for _, cell := range []int{0, 1, math.MaxInt} {
				l := []api.Access{{Thread: 1, Kind: first, Cell: cell}, {Thread: 0, Kind: second, Cell: cell}}
				if _, j, found := Race(2, l); found != want || found && j != 1 {
					t.Error(first, second, cell, found)
				}
				l[0].Thread = 0
				if _, _, found := Race(2, l); found {
					t.Error("one thread", first, second)
				}
				l[0] = api.Access{Thread: 1, Kind: first, Cell: 2}
				if _, _, found := Race(2, l); found {
					t.Error("two cells", first, second)
				}
			}
		}
	}
}

// P13.2: which kinds hand on, from a writer to a reader of an atomic cell alone.
func TestHandsOn(t *testing.T) {
	for first, a := range kinds() {
		for second, b := range kinds() {
			l := []api.Access{{Kind: api.Write, Cell: 5}, {Kind: first, Cell: 1}, {Thread: 1, Kind: second, Cell: 1}, {Thread: 1, Kind: api.Read, Cell: 5}}
			want := a[0] && b[0] && a[1] && b[2]
			if Behind(2, l, 2, 1) != want || Behind(2, l, 3, 0) != want {
				t.Error(first, second)
			}
			l[2].Cell = 2
			if Behind(2, l, 2, 1) || Behind(2, l, 3, 0) {
				t.Error("two cells", first, second)
			}
		}
	}
}

// P13.2, P1: none stands behind itself, behind a later one, or behind one that isn't there.
func TestBehindWrong(t *testing.T) {
	l := []api.Access{{Kind: 1}, {Kind: 1}, {Kind: 2}}
	for _, i := range []int{math.MinInt, -1, 3, math.MaxInt} {
		for _, j := range []int{math.MinInt, -1, 0, 2, 3, 4, math.MaxInt} {
			if Behind(1, l, i, j) || Behind(1, l, j, i) {
				t.Error(i, j)
			}
		}
	}
	for i := range l {
		for j := range l {
			if Behind(1, l, i, j) != (i > j) {
				t.Error(i, j)
			}
		}
	}
}

// P13.2: counts are whole pairs, of each thread.
func TestCounts(t *testing.T) {
	l := []api.Access{{Thread: 2, Kind: api.Miss}, {Thread: 2, Kind: api.Read}, {Thread: 2, Kind: api.Write}, {Thread: 0, Kind: api.Add}}
	if got := Counts(4, l); !slices.Equal(got, []complex128{pair.Of(1, 0), 0, pair.Of(1, 2), 0}) {
		t.Error(got)
	}
}

// Rule 4: an answer is new memory, and its lists share none.
func TestNew(t *testing.T) {
	l := split(rand.New(rand.NewSource(133)), 3, 20)
	want := clocks(3, l)
	got := Clocks(3, l)
	for i := range got {
		for t := range got[i] {
			got[i][t] = -1 - i
		}
		_ = append(got[i], 77)
	}
	for i := range got {
		if !slices.Equal(got[i], []int{-1 - i, -1 - i, -1 - i}) {
			t.Error(i, got[i])
		}
	}
	if !sameLists(Clocks(3, l), want) {
		t.Error("kept")
	}
}

// P13.3: one stands behind another one just if its clock knows as many steps of that one's thread as that has done.
func TestClockTells(t *testing.T) {
	r := rand.New(rand.NewSource(134))
	for range 150 {
		n := 1 + r.Intn(5)
		l := split(r, n, 25)
		got := Clocks(n, l)
		done := make([]int, n)
		for j, a := range l {
			done[a.Thread]++
			if !tick.Right(got[j]) || got[j][a.Thread] != done[a.Thread] {
				t.Fatal(l, j, got[j])
			}
			for i := range l {
				if i != j && Behind(n, l, i, j) != tick.Knows(got[i], a.Thread, done[a.Thread]) {
					t.Fatal(l, i, j)
				}
			}
		}
	}
}

// P13.4: standing behind goes on, never to a later one; of one thread none race.
func TestFollows(t *testing.T) {
	r := rand.New(rand.NewSource(135))
	for range 60 {
		n := 1 + r.Intn(4)
		l := split(r, n, 14)
		for i := range l {
			for j := range l {
				for k := range l {
					if Behind(n, l, i, j) && (j >= i || Behind(n, l, j, k) && !Behind(n, l, i, k)) {
						t.Fatal(l, i, j, k)
					}
				}
			}
		}
		one := r.Intn(n)
		for i := range l {
			l[i].Thread = one
		}
		if _, _, found := Race(n, l); found {
			t.Fatal(l)
		}
	}
}

// A long list is gone through in little time, though all of it is of one cell.
func TestLong(t *testing.T) {
	var l []api.Access
	for i := range 20000 {
		thread := i % 10
		l = append(l, api.Access{Thread: thread, Kind: api.Swap, Cell: 1}, api.Access{Thread: thread, Kind: api.Write, Cell: 2},
			api.Access{Thread: thread, Kind: api.Read, Cell: 2}, api.Access{Thread: thread, Kind: api.Store, Cell: 1})
	}
	if i, j, found := Race(10, l); found {
		t.Error(i, j)
	}
	last := len(l) - 1
	if got := Clocks(10, l)[last]; got[9] != 8000 || got[0] != 8000 || tick.Sum(got) != len(l) {
		t.Error(got)
	}
	l = append(l, api.Access{Thread: 4, Kind: api.Write, Cell: 2})
	// The thread 4 knows all up to its last turn, the sixth from the end, and none of those behind it.
	if i, j, found := Race(10, l); !found || j != last+1 || i != 4*(20000-5)+1 {
		t.Error(i, j, found)
	}
}

// The chapter's example.
func TestExample(t *testing.T) {
	l := []api.Access{{Kind: api.Write, Cell: 5}, {Kind: api.Store}, {Thread: 1, Kind: api.Load}, {Thread: 1, Kind: api.Read, Cell: 5}}
	if _, _, found := Race(2, l); found {
		t.Error("race")
	}
	if i, j, found := Race(2, slices.Delete(l, 2, 3)); i != 0 || j != 2 || !found {
		t.Error(i, j, found)
	}
}
