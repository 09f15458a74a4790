package conf

import (
	"math"
	"math/big"
	"slices"
	"testing"

	"sakia/api"
)

// graphs are right ones of one consumer to six.
func graphs() [][][]int {
	return [][][]int{{nil}, {nil, {0}}, {{1}, nil}, {nil, nil, {1, 0}}, {nil, {0}, {0}, {1, 2}},
		{nil, {0}, {1}, {2}, {3}}, make([][]int, 6), {{1, 2, 3, 4, 5}, {2}, {3}, {4}, {5}, {}}}
}

func starts() []uint64 {
	return []uint64{0, 1, 9, 1<<31 - 1, 1 << 31, 1<<32 - 3, 1<<32 - 1, 1 << 32, 1<<32 + 9, 5<<32 + 7, 1 << 63, 1<<64 - 1}
}

// rights are configurations that may be, of all variants, widths, capacities and counts of producers.
func rights() []api.Conf {
	var out []api.Conf
	i := 0
	for variant := 1; variant <= 5; variant++ {
		for _, width := range []int{32, 64} {
			for _, slots := range []int{2, 4, 8, 16, 32, 64} {
				for producers := 1; producers <= 4 && (variant != 1 || producers == 1); producers++ {
					for _, up := range graphs() {
						start := starts()[i%len(starts())]
						out = append(out, api.Conf{Variant: variant, Width: width, Cap: slots, Producers: producers, Start: start, Up: kept(up)})
						i++
					}
				}
			}
		}
	}
	return out
}

// plain is a configuration that may be, and is changed where a test says so.
func plain(change func(c *api.Conf)) api.Conf {
	c := api.Conf{Variant: api.Cas, Width: 32, Cap: 4, Producers: 2, Start: 1<<32 + 9, Up: [][]int{nil, {0}}}
	change(&c)
	return c
}

func kept(up [][]int) [][]int {
	var out [][]int
	for _, l := range up {
		out = append(out, append([]int(nil), l...))
	}
	return out
}

func sameUp(a, b [][]int) bool {
	return slices.EqualFunc(a, b, func(x, y []int) bool { return slices.Equal(x, y) })
}

func same(a, b api.Conf) bool {
	return a.Variant == b.Variant && a.Width == b.Width && a.Cap == b.Cap && a.Producers == b.Producers && a.Start == b.Start && sameUp(a.Up, b.Up)
}

// wrongField is a way to spoil a configuration, and the error of that.
type wrongField struct {
	spoil func(c *api.Conf)
	want  api.Errno
}

// faults are ways to spoil one, in the order in which they are told: of each kind only those that leave the kinds ahead as they were.
func faults() [][]wrongField {
	var variants, widths, caps, producers, graphs []wrongField
	for _, x := range []int{0, -1, 6, 7, 1<<32 + 1, -1 << 32, math.MaxInt, math.MinInt} {
		variants = append(variants, wrongField{func(c *api.Conf) { c.Variant = x }, api.ErrVariant})
	}
	for _, x := range []int{0, -1, 1, 16, 31, 33, 63, 65, 128, -32, -64, 1<<32 + 32, math.MaxInt, math.MinInt} {
		widths = append(widths, wrongField{func(c *api.Conf) { c.Width = x }, api.ErrWidth})
	}
	for _, x := range []int{0, 1, -1, -2, 3, 5, 6, 63, 65, 1<<30 - 1, 1<<30 + 1, 1 << 31, 1 << 32, 1 << 62, math.MaxInt, math.MinInt} {
		caps = append(caps, wrongField{func(c *api.Conf) { c.Cap = x }, api.ErrCap})
	}
	for _, x := range []int{0, -1, -4, 5, 6, 1 << 32, 1<<32 + 1, math.MaxInt, math.MinInt} {
		producers = append(producers, wrongField{func(c *api.Conf) { c.Producers = x }, api.ErrProducers})
	}
	for _, g := range []struct {
		up   [][]int
		want api.Errno
	}{
		{nil, api.ErrConsumers}, {[][]int{}, api.ErrConsumers}, {make([][]int, 7), api.ErrConsumers}, {append(make([][]int, 6), []int{9}), api.ErrConsumers},
		{[][]int{{1}}, api.ErrGraph}, {[][]int{nil, {0, 0}}, api.ErrGraph}, {[][]int{{0}, {-1}}, api.ErrGraph}, {[][]int{nil, {math.MinInt}}, api.ErrGraph},
		{[][]int{{0}}, api.ErrCycle}, {[][]int{{1}, {0}}, api.ErrCycle}, {[][]int{nil, {3, 0}, {1}, {2}}, api.ErrCycle},
	} {
		graphs = append(graphs, wrongField{func(c *api.Conf) { c.Up = kept(g.up) }, g.want})
	}
	return [][]wrongField{variants, widths, caps, producers, graphs}
}

// wrongs are configurations that may not be.
func wrongs() []api.Conf {
	var out []api.Conf
	for _, fs := range faults() {
		for _, f := range fs {
			out = append(out, plain(f.spoil))
		}
	}
	for _, width := range []int{32, 64} {
		for slots := 128; slots <= 1<<30; slots *= 2 {
			out = append(out, plain(func(c *api.Conf) { c.Width, c.Cap = width, slots }))
		}
	}
	return append(out, api.Conf{}, plain(func(c *api.Conf) { c.Variant = api.One }))
}

func TestCheckRight(t *testing.T) { // P10.1
	for _, c := range rights() {
		was := c
		was.Up = kept(c.Up)
		if e := Check(c); e != api.OK {
			t.Error(c, e)
		}
		if !same(c, was) {
			t.Error("changed", c, was)
		}
	}
}

func TestCheckWrong(t *testing.T) { // P10.1
	for _, c := range rights()[:400] {
		for _, fs := range faults() {
			for _, f := range fs {
				bad := c
				f.spoil(&bad)
				if e := Check(bad); e != f.want {
					t.Error(bad, e, f.want)
				}
			}
		}
	}
}

func TestCheckTellsTheFirst(t *testing.T) { // P10.1, P1
	all := faults()
	for i := range all {
		for _, f := range all[i] {
			for _, later := range all[i+1:] {
				for _, g := range later {
					bad := plain(func(c *api.Conf) { g.spoil(c); f.spoil(c) })
					if e := Check(bad); e != f.want {
						t.Error(bad, e, f.want)
					}
				}
			}
			// Too long a ring is told last of all.
			if f.want != api.ErrCap {
				bad := plain(func(c *api.Conf) { c.Cap = 1 << 30; f.spoil(c) })
				if e := Check(bad); e != f.want {
					t.Error(bad, e, f.want)
				}
			}
		}
	}
	if e := Check(api.Conf{}); e != api.ErrVariant {
		t.Error("zero", e)
	}
}

func TestCheckOne(t *testing.T) { // P10.1
	for variant := 1; variant <= 5; variant++ {
		for producers := -1; producers <= 6; producers++ {
			want := api.OK
			if producers < 1 || producers > 4 || variant == 1 && producers != 1 {
				want = api.ErrProducers
			}
			c := plain(func(c *api.Conf) { c.Variant, c.Producers = variant, producers })
			if e := Check(c); e != want {
				t.Error(c, e, want)
			}
			c.Up = [][]int{{0}} // which is told behind that
			if want == api.OK {
				want = api.ErrCycle
			}
			if e := Check(c); e != want {
				t.Error(c, e, want)
			}
		}
	}
}

func TestCheckBoundRoom(t *testing.T) { // P10.1
	for _, width := range []int{32, 64} {
		for slots := 2; slots <= 1<<30; slots *= 2 {
			for producers := 1; producers <= 4; producers++ {
				// Reckoned with numbers that have no end: 2^63 is no int.
				size := new(big.Int).Mul(big.NewInt(int64(producers+2)), big.NewInt(int64(slots)))
				want := api.OK
				if size.Cmp(new(big.Int).Lsh(big.NewInt(1), uint(width-1))) >= 0 {
					want = api.ErrBound
				} else if slots > 64 {
					want = api.ErrRoom
				}
				c := plain(func(c *api.Conf) { c.Width, c.Cap, c.Producers = width, slots, producers })
				if e := Check(c); e != want {
					t.Error(c, e, want)
				}
			}
		}
	}
	for _, c := range []struct {
		width, slots, producers int
		want                    api.Errno
	}{
		{32, 64, 4, api.OK}, {32, 128, 1, api.ErrRoom}, {64, 64, 4, api.OK}, {64, 128, 4, api.ErrRoom},
		{32, 1 << 28, 4, api.ErrRoom}, {32, 1 << 29, 1, api.ErrRoom}, {32, 1 << 29, 2, api.ErrBound}, {32, 1 << 29, 3, api.ErrBound},
		{32, 1 << 30, 1, api.ErrBound}, {64, 1 << 30, 4, api.ErrRoom},
	} {
		bad := plain(func(x *api.Conf) { x.Width, x.Cap, x.Producers = c.width, c.slots, c.producers })
		if e := Check(bad); e != c.want {
			t.Error(bad, e, c.want)
		}
	}
}

func noThreads(n int) []int {
	return []int{-1, -2, n, n + 1, 10, 11, 1 << 32, -1 << 32, math.MaxInt, math.MaxInt - 1, math.MinInt, math.MinInt + 1}
}

func TestThreads(t *testing.T) { // P10.1
	for _, c := range rights() {
		n := c.Producers + len(c.Up)
		if got := Threads(c); got != n {
			t.Error(c, got, n)
		}
		for i := range n {
			producer := i < c.Producers
			if Producer(c, i) != producer {
				t.Error("producer", c, i)
			}
			want := max(i-c.Producers, 0)
			if got, ok := Consumer(c, i); got != want || ok == producer {
				t.Error("consumer", c, i, got, ok)
			}
		}
		for i := range c.Up {
			if got, ok := Thread(c, i); got != c.Producers+i || !ok {
				t.Error("thread", c, i, got, ok)
			}
		}
	}
}

func TestNoThreads(t *testing.T) { // P10.1, P1
	for _, c := range rights() {
		for _, i := range noThreads(c.Producers + len(c.Up)) {
			if Producer(c, i) {
				t.Error("producer", c, i)
			}
			if got, ok := Consumer(c, i); got != 0 || ok {
				t.Error("consumer", c, i, got, ok)
			}
		}
		for _, i := range noThreads(len(c.Up)) {
			if got, ok := Thread(c, i); got != 0 || ok {
				t.Error("thread", c, i, got, ok)
			}
		}
	}
}

func TestStart(t *testing.T) { // P10.1
	for _, start := range starts() {
		c := plain(func(c *api.Conf) { c.Start = start })
		if got := Start(c); got != start%(1<<32) {
			t.Error(32, start, got)
		}
		c.Width = 64
		if got := Start(c); got != start {
			t.Error(64, start, got)
		}
	}
}

func TestNothingOfWrong(t *testing.T) { // P10.1, P10.2, P1
	for _, c := range wrongs() {
		if Check(c) == api.OK {
			t.Error("may be", c)
		}
		c.Start = 77
		if Threads(c) != 0 || Start(c) != 0 || Turns(c) != 0 || len(Others(c)) != 0 {
			t.Error(c, Threads(c), Start(c), Turns(c), Others(c))
		}
		for _, i := range append(noThreads(2), 0, 1, 2, 3, 4, 5) {
			k, consumer := Consumer(c, i)
			n, thread := Thread(c, i)
			if Producer(c, i) || consumer || thread || k != 0 || n != 0 {
				t.Error(c, i, k, consumer, n, thread)
			}
		}
	}
}

func TestOthers(t *testing.T) { // P10.2
	for _, c := range rights() {
		was := c
		was.Up = kept(c.Up)
		var want []api.Conf
		for variant := 1; variant <= 5; variant++ {
			for _, width := range []int{32, 64} {
				if variant != 1 || c.Producers == 1 {
					want = append(want, api.Conf{Variant: variant, Width: width, Cap: c.Cap, Producers: c.Producers, Start: c.Start % (1 << 32), Up: c.Up})
				}
			}
		}
		if got := Others(c); !slices.EqualFunc(got, want, same) {
			t.Error(c, got, want)
		}
		if !same(c, was) {
			t.Error("changed", c, was)
		}
	}
}

func TestOthersHaveTheirOwn(t *testing.T) { // P10.2
	c := plain(func(c *api.Conf) { c.Producers, c.Up = 1, [][]int{nil, {0}, {0, 1}} })
	others := Others(c)
	for i := range others {
		for k := range others[i].Up {
			for j := range others[i].Up[k] {
				others[i].Up[k][j] = -1 - i
			}
		}
		others[i].Up[0] = []int{50 + i}
		others[i].Cap = 99
	}
	if !sameUp(c.Up, [][]int{nil, {0}, {0, 1}}) {
		t.Error("the one that was handed in", c.Up)
	}
	for i, o := range others {
		if !sameUp(o.Up, [][]int{{50 + i}, {-1 - i}, {-1 - i, -1 - i}}) {
			t.Error("each other", i, o.Up)
		}
	}
	for _, o := range Others(c) {
		if o.Cap != 4 || !sameUp(o.Up, c.Up) {
			t.Error("later ones", o)
		}
	}
}

func TestAlike(t *testing.T) { // P10.2
	base := plain(func(c *api.Conf) { c.Up = [][]int{nil, {0}, {0, 1}} })
	for _, c := range []struct {
		change func(c *api.Conf)
		want   bool
	}{
		{func(c *api.Conf) {}, true},
		{func(c *api.Conf) { c.Variant = api.Lock }, true},
		{func(c *api.Conf) { c.Variant = -7 }, true},
		{func(c *api.Conf) { c.Width = 64 }, true},
		{func(c *api.Conf) { c.Width = 5 }, true},
		{func(c *api.Conf) { c.Start = 9 }, true},
		{func(c *api.Conf) { c.Start = 7<<32 + 9; c.Width = 64 }, true},
		{func(c *api.Conf) { c.Up[0] = []int{} }, true},
		{func(c *api.Conf) { c.Cap = 8 }, false},
		{func(c *api.Conf) { c.Cap = 1<<32 + 4 }, false},
		{func(c *api.Conf) { c.Producers = 1 }, false},
		{func(c *api.Conf) { c.Producers = 1<<32 + 2 }, false},
		{func(c *api.Conf) { c.Start = 10 }, false},
		{func(c *api.Conf) { c.Start = 1<<31 + 9 }, false},
		{func(c *api.Conf) { c.Up = nil }, false},
		{func(c *api.Conf) { c.Up = c.Up[:2] }, false},
		{func(c *api.Conf) { c.Up = append(c.Up, nil) }, false},
		{func(c *api.Conf) { c.Up[1] = nil }, false},
		{func(c *api.Conf) { c.Up[0] = []int{1} }, false},
		{func(c *api.Conf) { c.Up[2] = []int{0} }, false},
		{func(c *api.Conf) { c.Up[2] = []int{1, 0} }, false},
		{func(c *api.Conf) { c.Up[2] = []int{0, 1, 1} }, false},
	} {
		other := base
		other.Up = kept(base.Up)
		c.change(&other)
		if Alike(base, other) != c.want || Alike(other, base) != c.want {
			t.Error(base, other, c.want)
		}
	}
}

func TestAlikeOfWrong(t *testing.T) { // P10.2: which may not be can be alike all the same
	for _, c := range wrongs() {
		other := c
		other.Up = kept(c.Up)
		other.Variant, other.Width, other.Start = c.Variant^3, c.Width^5, c.Start+1<<32
		if !Alike(c, other) || !Alike(other, c) {
			t.Error(c, other)
		}
		other.Start++
		if Alike(c, other) || Alike(other, c) {
			t.Error("start", c, other)
		}
	}
	if !Alike(api.Conf{}, api.Conf{Up: [][]int{}}) {
		t.Error("no list is an empty one")
	}
}

func TestTurns(t *testing.T) { // P10.2
	for _, c := range rights() {
		n := len(c.Up)
		sum := 0
		for range c.Producers + n + 1 {
			sum += c.Cap + c.Cap + c.Cap + c.Cap + n + 8
		}
		if got := Turns(c); got != sum {
			t.Error(c, got, sum)
		}
	}
	least := api.Conf{Variant: api.One, Width: 32, Cap: 2, Producers: 1, Up: [][]int{nil}}
	most := api.Conf{Variant: api.Lock, Width: 64, Cap: 64, Producers: 4, Up: make([][]int, 6)}
	if Turns(least) != 51 || Turns(most) != 2970 {
		t.Error(Turns(least), Turns(most))
	}
}

func TestHowManyOthers(t *testing.T) { // P10.3
	for _, c := range rights() {
		want := 8
		if c.Producers == 1 {
			want = 10
		}
		others := Others(c)
		if len(others) != want {
			t.Error(c, len(others), want)
		}
		seen := map[[2]int]bool{}
		for _, o := range others {
			if Check(o) != api.OK || !Alike(c, o) || seen[[2]int{o.Variant, o.Width}] {
				t.Error(c, o)
			}
			seen[[2]int{o.Variant, o.Width}] = true
		}
		if !seen[[2]int{c.Variant, c.Width}] {
			t.Error("not itself", c)
		}
	}
}

func TestNeverBoth(t *testing.T) { // P10.4
	for _, c := range rights() {
		producers := 0
		for i := range Threads(c) {
			k, consumer := Consumer(c, i)
			if Producer(c, i) == consumer {
				t.Error(c, i, consumer)
			}
			if Producer(c, i) {
				producers++
			}
			if back, ok := Thread(c, k); consumer && (back != i || !ok) {
				t.Error("not back", c, i, k, back, ok)
			}
		}
		if producers != c.Producers || Threads(c) > api.MaxThreads {
			t.Error(c, producers)
		}
	}
}

func TestExample(t *testing.T) {
	c := api.Conf{Variant: api.One, Width: 32, Cap: 4, Producers: 2, Up: [][]int{nil}}
	if e := Check(c); e != api.ErrProducers {
		t.Error(e)
	}
	c.Variant, c.Cap = api.Cas, 1<<29
	if e := Check(c); e != api.ErrBound {
		t.Error(e)
	}
	c.Width = 64
	if e := Check(c); e != api.ErrRoom {
		t.Error(e)
	}
}
