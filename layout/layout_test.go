package layout

import (
	"math"
	"math/big"
	"slices"
	"strconv"
	"strings"
	"testing"

	"sakia/api"
)

// row is what is asked of a cell.
type row struct {
	name  string
	kind  int
	first uint64
}

func graphs() [][][]int {
	return [][][]int{{nil}, {nil, {0}}, {{1}, nil}, {nil, {0}, {0}, {1, 2}}, make([][]int, 6)}
}

func starts() []uint64 {
	return []uint64{0, 1, 5, 63, 64, 1<<32 - 3, 1<<32 - 1, 1 << 32, 7<<32 + 9, 1<<64 - 1}
}

// rights are configurations that may be.
func rights() []api.Conf {
	var out []api.Conf
	for variant := 1; variant <= 5; variant++ {
		for _, width := range []int{32, 64} {
			for _, slots := range []int{2, 4, 8, 64} {
				for i, start := range starts() {
					up := graphs()[i%len(graphs())]
					producers := 1
					if variant != api.One {
						producers = 1 + i%4
					}
					out = append(out, api.Conf{Variant: variant, Width: width, Cap: slots, Producers: producers, Start: start, Up: up})
				}
			}
		}
	}
	return out
}

// plain is a configuration that may be, and is changed where a test says so.
func plain(change func(c *api.Conf)) api.Conf {
	c := api.Conf{Variant: api.Cas, Width: 32, Cap: 4, Producers: 2, Start: 1<<32 + 9, Up: [][]int{nil, {0}}}
	change(&c)
	return c
}

// power is 2^k.
func power(k int) *big.Int {
	return new(big.Int).Lsh(big.NewInt(1), uint(k))
}

// walk goes from Start on until a position has the slot; it tells that, and the round ahead of its own.
func walk(c api.Conf, slot int) (uint64, uint64) {
	turn, ring := power(c.Width), big.NewInt(int64(c.Cap))
	pos := new(big.Int).Mod(new(big.Int).SetUint64(c.Start), turn)
	for new(big.Int).Mod(pos, ring).Int64() != int64(slot) {
		pos.Add(pos, big.NewInt(1)).Mod(pos, turn)
	}
	rounds := new(big.Int).Div(turn, ring)
	ahead := new(big.Int).Div(pos, ring)
	ahead.Sub(ahead, big.NewInt(1)).Mod(ahead, rounds)
	return pos.Uint64(), ahead.Uint64()
}

// rows are all cells of a configuration, as the chapter's table lists them.
func rows(c api.Conf) []row {
	start := new(big.Int).Mod(new(big.Int).SetUint64(c.Start), power(c.Width)).Uint64()
	var out []row
	for i := range c.Up {
		out = append(out, row{"gate" + strconv.Itoa(i), Atomic, start})
	}
	switch c.Variant {
	case api.One:
		out = append(out, row{"cursor", Atomic, start})
	case api.Cas, api.Faa, api.Stamp:
		out = append(out, row{"claim", Atomic, start})
	case api.Lock:
		out = append(out, row{"ticket", Atomic, 0}, row{"serving", Atomic, 0}, row{"next", Plain, start})
	}
	for i := 0; i < c.Cap && c.Variant != api.One; i++ {
		pos, ahead := walk(c, i)
		switch c.Variant {
		case api.Cas, api.Faa:
			out = append(out, row{"mark" + strconv.Itoa(i), Atomic, ahead})
		case api.Stamp:
			out = append(out, row{"stamp" + strconv.Itoa(i), Atomic, pos})
		case api.Lock:
			out = append(out, row{"done" + strconv.Itoa(i), Plain, ahead})
		}
	}
	for i := range c.Cap {
		out = append(out, row{"slot" + strconv.Itoa(i), Data, 0})
	}
	return out
}

// find is the place of the cell that has one of these names, -1 if none has.
func find(l []row, names ...string) int {
	return slices.IndexFunc(l, func(r row) bool { return slices.Contains(names, r.name) })
}

func sameUp(a, b [][]int) bool {
	return slices.EqualFunc(a, b, func(x, y []int) bool { return slices.Equal(x, y) })
}

// isZero tells whether no field is anything.
func isZero(l Layout) bool {
	c := l.Conf
	return c.Variant == 0 && c.Width == 0 && c.Cap == 0 && c.Producers == 0 && c.Start == 0 && len(c.Up) == 0 &&
		l.Cursor == 0 && l.Claim == 0 && l.Ticket == 0 && l.Serving == 0 && l.Next == 0 && l.Marks == 0 && l.Slots == 0 && l.Cells == 0
}

// P11.1: the numbers of all cells, -1 of what the variant has not.
func TestOf(t *testing.T) {
	for _, c := range rights() {
		l, e := Of(c)
		if e != api.OK {
			t.Fatal(c, e)
		}
		want := rows(c)
		for name, got := range map[string]int{"cursor": l.Cursor, "claim": l.Claim, "ticket": l.Ticket, "serving": l.Serving, "next": l.Next, "slot0": l.Slots} {
			if got != find(want, name) {
				t.Error(c, name, got, find(want, name))
			}
		}
		if marks := find(want, "mark0", "stamp0", "done0"); l.Marks != marks || l.Cells != len(want) {
			t.Error(c, l.Marks, marks, l.Cells, len(want))
		}
		k := l.Conf
		if k.Variant != c.Variant || k.Width != c.Width || k.Cap != c.Cap || k.Producers != c.Producers || k.Start != c.Start || !sameUp(k.Up, c.Up) {
			t.Error(c, k)
		}
	}
}

// P11.1, P1: conf's error, the first that fits, and nothing beside it.
func TestOfWrong(t *testing.T) {
	wrong := map[api.Errno][]api.Conf{
		api.ErrVariant:   {{}, plain(func(c *api.Conf) { c.Variant = 0 }), plain(func(c *api.Conf) { c.Variant, c.Width = 6, 0 }), plain(func(c *api.Conf) { c.Variant = math.MinInt })},
		api.ErrWidth:     {plain(func(c *api.Conf) { c.Width = 0 }), plain(func(c *api.Conf) { c.Width, c.Cap = 16, 3 })},
		api.ErrCap:       {plain(func(c *api.Conf) { c.Cap = 1 }), plain(func(c *api.Conf) { c.Cap = 6 }), plain(func(c *api.Conf) { c.Cap = math.MaxInt })},
		api.ErrProducers: {plain(func(c *api.Conf) { c.Producers = 0 }), plain(func(c *api.Conf) { c.Producers = 5 }), plain(func(c *api.Conf) { c.Variant = api.One })},
		api.ErrConsumers: {plain(func(c *api.Conf) { c.Up = nil }), plain(func(c *api.Conf) { c.Up = make([][]int, 7) })},
		api.ErrGraph:     {plain(func(c *api.Conf) { c.Up = [][]int{{1}} }), plain(func(c *api.Conf) { c.Up = [][]int{nil, {0, 0}} })},
		api.ErrCycle:     {plain(func(c *api.Conf) { c.Up = [][]int{{1}, {0}} })},
		api.ErrBound:     {plain(func(c *api.Conf) { c.Cap = 1 << 29 })},
		api.ErrRoom:      {plain(func(c *api.Conf) { c.Cap = 128 })},
	}
	for want, list := range wrong {
		for _, c := range list {
			if l, e := Of(c); e != want || !isZero(l) {
				t.Error(c, l, e, want)
			}
		}
	}
}

// P11.1: the graph is a copy: neither side sees what the other one writes.
func TestOfCopies(t *testing.T) {
	c := plain(func(c *api.Conf) { c.Up = [][]int{nil, {0}, {1, 0}} })
	l, _ := Of(c)
	m, _ := Of(c)
	c.Up[2][0], c.Up[1] = 7, nil
	if want := [][]int{nil, {0}, {1, 0}}; !sameUp(l.Conf.Up, want) {
		t.Error(l.Conf.Up)
	}
	l.Conf.Up[2][1] = 9
	if c.Up[2][1] != 0 || m.Conf.Up[2][1] != 0 {
		t.Error(c.Up, m.Conf.Up)
	}
}

// P11.2: gates, marks and slots by their numbers; -1 of what there is not.
func TestPlaces(t *testing.T) {
	for _, c := range rights() {
		l, _ := Of(c)
		want := rows(c)
		tries := []int{math.MinInt, math.MinInt + 1, math.MaxInt - 1, math.MaxInt}
		for i := -3; i < 70; i++ {
			tries = append(tries, i)
		}
		for _, i := range tries {
			n := strconv.Itoa(i)
			if got := l.Gate(i); got != find(want, "gate"+n) {
				t.Fatal(c, "gate", i, got)
			}
			if got := l.Mark(i); got != find(want, "mark"+n, "stamp"+n, "done"+n) {
				t.Fatal(c, "mark", i, got)
			}
			if got := l.Slot(i); got != find(want, "slot"+n) {
				t.Fatal(c, "slot", i, got)
			}
		}
	}
}

// P11.2: the kinds' numbers are part of the face.
func TestKindNumbers(t *testing.T) {
	if None != 0 || Atomic != 1 || Plain != 2 || Data != 3 {
		t.Error(None, Atomic, Plain, Data)
	}
}

// P11.2: each cell's kind, and what it has at first.
func TestKindAndFirst(t *testing.T) {
	for _, c := range rights() {
		l, _ := Of(c)
		for i, r := range rows(c) {
			if l.Kind(i) != r.kind || l.First(i) != r.first {
				t.Fatal(c, r, l.Kind(i), l.First(i))
			}
		}
	}
}

// P11.3, P11.4: each cell has a name of its own, which finds it.
func TestNames(t *testing.T) {
	for _, c := range rights() {
		l, _ := Of(c)
		seen := map[string]bool{}
		for i, r := range rows(c) {
			name := l.Name(i)
			if name != r.name || seen[name] {
				t.Fatal(c, i, name, r.name)
			}
			seen[name] = true
			if cell, ok := l.Find(strings.Clone(name)); cell != i || !ok {
				t.Fatal(c, name, cell, ok)
			}
		}
	}
}

// P11.3, P1: what is no cell's name finds nothing.
func TestFindWrong(t *testing.T) {
	names := []string{"", " ", "gate", "gate00", "gate01", "gate-0", "gate+0", "gate 0", "gate0 ", " gate0", "Gate0", "gate6", "gate2", "gate1x", "0", "slot", "slot4", "slot04",
		"slot-1", "mark", "mark4", "mark1.0", "claim0", "Claim", "claim ", "cursor0", "ticket0", "serving0", "next0", "stamp", "done", "slot18446744073709551616", "none", "nothing", "\x00", "gate\xff", strings.Repeat("gate0", 1000)}
	others := map[int][]string{
		api.One:   {"claim", "ticket", "serving", "next", "mark0", "stamp0", "done0"},
		api.Cas:   {"cursor", "ticket", "serving", "next", "stamp0", "done0"},
		api.Faa:   {"cursor", "ticket", "serving", "next", "stamp0", "done0"},
		api.Stamp: {"cursor", "ticket", "serving", "next", "mark0", "done0"},
		api.Lock:  {"cursor", "claim", "mark0", "stamp0"},
	}
	for variant, more := range others {
		l, _ := Of(plain(func(c *api.Conf) { c.Variant, c.Producers = variant, 1 }))
		for _, name := range slices.Concat(names, more) {
			if cell, ok := l.Find(name); cell != 0 || ok {
				t.Error(variant, name, cell, ok)
			}
		}
	}
}

// nowhere asks of cells that a layout has not.
func nowhere(t *testing.T, l Layout) {
	for _, cell := range []int{math.MinInt, -2, -1, l.Cells, l.Cells + 1, l.Cells + 1000, math.MaxInt} {
		if l.Kind(cell) != None || l.First(cell) != 0 || l.Name(cell) != "" {
			t.Error(l, cell, l.Kind(cell), l.First(cell), l.Name(cell))
		}
	}
}

// P11.1: nothing is told of cells that there are not, nor of a layout that no call made.
func TestNothing(t *testing.T) {
	for _, c := range rights() {
		l, _ := Of(c)
		nowhere(t, l)
	}
	var l Layout
	nowhere(t, l)
	for _, i := range []int{math.MinInt, -1, 0, 1, 5, math.MaxInt} {
		if l.Gate(i) != -1 || l.Mark(i) != -1 || l.Slot(i) != -1 {
			t.Error(i, l.Gate(i), l.Mark(i), l.Slot(i))
		}
	}
	for _, name := range []string{"", "gate0", "cursor", "claim", "slot0"} {
		if cell, ok := l.Find(name); cell != 0 || ok {
			t.Error(name, cell, ok)
		}
	}
}

// P11.2, P11.3: whoever asks changes nothing.
func TestAskedAgain(t *testing.T) {
	l, _ := Of(plain(func(c *api.Conf) { c.Variant = api.Lock }))
	for range 2 {
		if l.Name(4) != "next" || l.Gate(1) != 1 || l.First(4) != 9 || l.Kind(5) != Plain || !sameUp(l.Conf.Up, [][]int{nil, {0}}) {
			t.Error(l)
		}
	}
}

// The chapter's example.
func TestExample(t *testing.T) {
	l, e := Of(api.Conf{Variant: api.Lock, Width: 32, Cap: 2, Producers: 1, Up: [][]int{nil}})
	var names []string
	for cell := range l.Cells {
		names = append(names, l.Name(cell))
	}
	if got := strings.Join(names, ", "); e != api.OK || got != "gate0, ticket, serving, next, done0, done1, slot0, slot1" || l.Cells != 8 {
		t.Error(e, got, l.Cells)
	}
}
