package lap

import (
	"math"
	"math/big"
	"testing"

	"sakia/api"
	"sakia/wide"
)

// wrongCaps are those that no ring has.
func wrongCaps() []int {
	return []int{math.MinInt, -1 << 30, -8, -2, -1, 0, 1, 3, 5, 6, 7, 12, 63, 65, 1<<30 - 1, 1<<30 + 1, 1 << 31, 1 << 32, 1<<32 + 8, 1 << 62, math.MaxInt}
}

// positions are some about a round's turn, and about where counters of a width go round.
func positions(width, cap int) []uint64 {
	var out []uint64
	for _, at := range []uint64{0, uint64(cap), 3 * uint64(cap), 1 << (width - 1), 0xdeadbeefcafe} {
		for d := range 9 {
			out = append(out, wide.Cut(width, at+uint64(d)-4))
		}
	}
	return out
}

// slots are some of a ring's slots, about its ends.
func slots(cap int) []int {
	if cap <= 16 {
		var all []int
		for s := range cap {
			all = append(all, s)
		}
		return all
	}
	return []int{0, 1, 2, cap/2 - 1, cap / 2, cap - 2, cap - 1}
}

// rounds is how many rounds a ring has.
func rounds(width, cap int) *big.Int {
	all := new(big.Int).Lsh(big.NewInt(1), uint(width))
	return all.Div(all, big.NewInt(int64(cap)))
}

func TestRightLog(t *testing.T) { // P2.1
	for k := 1; k <= 30; k++ {
		if !Right(1<<k) || Log(1<<k) != k {
			t.Error(k, Right(1<<k), Log(1<<k))
		}
		if k > 1 && (Right(1<<k-1) || Right(1<<k+1) || Log(1<<k-1) != 0 || Log(1<<k+1) != 0) {
			t.Error("beside", k)
		}
	}
	for _, cap := range wrongCaps() {
		if Right(cap) || Log(cap) != 0 {
			t.Error(cap)
		}
	}
}

func testWrongCaps[W api.Word](t *testing.T) {
	for _, cap := range wrongCaps() {
		for _, pos := range []W{0, 1, 7, ^W(0)} {
			if Slot(cap, pos) != 0 || Round(cap, pos) != 0 || Next(cap, pos) != 0 {
				t.Error("position", cap, pos)
			}
			for _, n := range []int{-1, 0, 1, 2, math.MaxInt, math.MinInt} {
				if At(cap, n, pos) != 0 || First(cap, n, pos) != 0 || Ahead(cap, n, pos) != 0 || len(Turns(cap, pos, n)) != 0 {
					t.Error("slot", cap, pos, n)
				}
			}
		}
	}
}

func TestWrongCaps(t *testing.T) { // P2.1
	testWrongCaps[uint32](t)
	testWrongCaps[uint64](t)
}

func testNoSuchSlot[W api.Word](t *testing.T) {
	for _, cap := range []int{2, 8, 64, 1 << 30} {
		for _, slot := range []int{math.MinInt, -cap, -1, cap, cap + 1, 1 << 32, math.MaxInt} {
			for _, x := range []W{0, 1, 7, ^W(0)} {
				if At(cap, slot, x) != 0 || First(cap, slot, x) != 0 || Ahead(cap, slot, x) != 0 {
					t.Error(cap, slot, x)
				}
			}
		}
	}
}

func TestNoSuchSlot(t *testing.T) { // P2.1, P2.2
	testNoSuchSlot[uint32](t)
	testNoSuchSlot[uint64](t)
}

func testPlaces[W api.Word](t *testing.T, width int) {
	for k := 1; k <= 30; k++ {
		cap := 1 << k
		for _, pos := range positions(width, cap) {
			if got := Slot(cap, W(pos)); uint64(got) != pos%uint64(cap) {
				t.Error("Slot", cap, pos, got)
			}
			if got := Round(cap, W(pos)); uint64(got) != pos/uint64(cap) {
				t.Error("Round", cap, pos, got)
			}
		}
	}
}

func TestPlaces(t *testing.T) { // P2.1
	testPlaces[uint32](t, 32)
	testPlaces[uint64](t, 64)
}

func testAt[W api.Word](t *testing.T, width int) {
	for k := 1; k <= 30; k++ {
		cap := 1 << k
		for _, round := range positions(width, cap) {
			there := new(big.Int).SetUint64(round)
			there.Mod(there, rounds(width, cap))
			for _, slot := range slots(cap) {
				want := there.Uint64()*uint64(cap) + uint64(slot)
				if got := At(cap, slot, W(round)); uint64(got) != want {
					t.Error(width, cap, slot, round, got, want)
				}
			}
		}
	}
}

func TestAt(t *testing.T) { // P2.1
	testAt[uint32](t, 32)
	testAt[uint64](t, 64)
	if got := At(4, 3, uint32(1<<30)+2); got != 11 {
		t.Error("a round above all", got)
	}
}

func testFirst[W api.Word](t *testing.T, width int) {
	for _, cap := range []int{2, 4, 8, 64} {
		for _, start := range positions(width, cap) {
			for slot := range cap {
				want := W(start)
				for int(want%W(cap)) != slot {
					want++
				}
				if got := First(cap, slot, W(start)); got != want {
					t.Error(width, cap, slot, start, got, want)
				}
			}
		}
	}
}

func testFirstOfMany[W api.Word](t *testing.T, width int) {
	for _, cap := range []int{1 << 20, 1 << 30} {
		for _, start := range positions(width, cap) {
			for _, slot := range slots(cap) {
				got := First(cap, slot, W(start))
				if uint64(got)%uint64(cap) != uint64(slot) || uint64(got-W(start)) >= uint64(cap) {
					t.Error(width, cap, slot, start, got)
				}
			}
		}
	}
}

func TestFirst(t *testing.T) { // P2.2
	testFirst[uint32](t, 32)
	testFirst[uint64](t, 64)
	testFirstOfMany[uint32](t, 32)
	testFirstOfMany[uint64](t, 64)
}

func testAhead[W api.Word](t *testing.T, width int) {
	for k := 1; k <= 30; k++ {
		cap := 1 << k
		for _, start := range positions(width, cap) {
			for _, slot := range slots(cap) {
				want := new(big.Int).SetUint64(uint64(First(cap, slot, W(start))) / uint64(cap))
				want.Sub(want, big.NewInt(1)).Mod(want, rounds(width, cap))
				if got := Ahead(cap, slot, W(start)); uint64(got) != want.Uint64() {
					t.Error(width, cap, slot, start, got, want)
				}
			}
		}
	}
}

func TestAhead(t *testing.T) { // P2.2
	testAhead[uint32](t, 32)
	testAhead[uint64](t, 64)
	if got := Ahead(4, 2, uint32(0)); got != 1<<30-1 {
		t.Error(got)
	}
	if got := Ahead(4, 2, uint64(0)); got != 1<<62-1 {
		t.Error(got)
	}
	if got := Ahead(4, 1, uint32(6)); got != 1 { // the first one is 9, in the round 2
		t.Error(got)
	}
}

func testNext[W api.Word](t *testing.T, width int) {
	for k := 1; k <= 30; k++ {
		cap := 1 << k
		for _, pos := range positions(width, cap) {
			if got := Next(cap, W(pos)); uint64(got) != wide.Cut(width, pos+uint64(cap)) {
				t.Error(width, cap, pos, got)
			}
		}
	}
}

func TestNext(t *testing.T) { // P2.2
	testNext[uint32](t, 32)
	testNext[uint64](t, 64)
}

func testTurns[W api.Word](t *testing.T, width int) {
	for _, cap := range []int{2, 4, 8, 64} {
		for _, from := range positions(width, cap) {
			for n := -2; n <= cap+2; n++ {
				got := Turns(cap, W(from), n)
				want := n
				if n < 0 || n > cap {
					want = 0
				}
				if len(got) != want {
					t.Fatal(width, cap, from, n, got)
				}
				for i, s := range got {
					if uint64(s) != (from+uint64(i))%uint64(cap) {
						t.Error(width, cap, from, n, got)
					}
				}
			}
		}
	}
}

func TestTurns(t *testing.T) { // P2.2
	testTurns[uint32](t, 32)
	testTurns[uint64](t, 64)
	if len(Turns(8, uint32(3), math.MaxInt)) != 0 || len(Turns(8, uint64(3), math.MinInt)) != 0 || len(Turns(1<<30, uint32(0), 1<<30+1)) != 0 {
		t.Error("n out of its bounds")
	}
	a, b := Turns(4, uint32(6), 3), Turns(4, uint32(6), 3)
	a[0] = 9
	if b[0] != 2 || b[1] != 3 || b[2] != 0 {
		t.Error("shared", b)
	}
}

func testThereAndBack[W api.Word](t *testing.T, width int) {
	for k := 1; k <= 30; k++ {
		cap := 1 << k
		for _, pos := range positions(width, cap) {
			if got := At(cap, Slot(cap, W(pos)), Round(cap, W(pos))); uint64(got) != pos {
				t.Error(width, cap, pos, got)
			}
		}
	}
}

func TestThereAndBack(t *testing.T) { // P2.3
	testThereAndBack[uint32](t, 32)
	testThereAndBack[uint64](t, 64)
}

func testShared[W api.Word](t *testing.T, width int) {
	for k := 1; k <= 30; k++ {
		cap := 1 << k
		for _, pos := range positions(width, cap) {
			p := W(pos)
			for _, d := range slots(cap) {
				if (Slot(cap, wide.Add(p, d)) == Slot(cap, p)) != (d == 0) || (Slot(cap, wide.Add(p, -d)) == Slot(cap, p)) != (d == 0) {
					t.Error("apart", width, cap, pos, d)
				}
			}
			next := Next(cap, p)
			if Slot(cap, next) != Slot(cap, p) || Round(cap, next) == Round(cap, p) {
				t.Error("next", width, cap, pos)
			}
		}
	}
}

func TestShared(t *testing.T) { // P2.4
	testShared[uint32](t, 32)
	testShared[uint64](t, 64)
}

func TestExample(t *testing.T) {
	if Slot(8, uint32(1<<32-3)) != 5 || Next(8, uint32(1<<32-3)) != 5 {
		t.Error("2^32 - 3")
	}
}
