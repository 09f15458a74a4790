package octet

import (
	"bytes"
	"encoding/binary"
	"math"
	"slices"
	"testing"

	"sakia/api"
)

// someWords are words about nought, where they grow a byte longer, and at the ends.
func someWords() []uint64 {
	out := []uint64{math.MaxUint64, math.MaxUint64 - 1, 0x9e3779b97f4a7c15, 0x5555555555555555, 0xaaaaaaaaaaaaaaaa}
	for x := range uint64(400) {
		out = append(out, x)
	}
	for i := range 64 {
		out = append(out, 1<<i-1, 1<<i, 1<<i+1)
	}
	return out
}

// numbers are ints about nought, where words grow a byte longer, and at the ends.
func numbers() []int {
	out := []int{math.MaxInt, math.MaxInt - 1, math.MinInt, math.MinInt + 1, 123456789, -123456789}
	for n := -200; n <= 200; n++ {
		out = append(out, n)
	}
	for i := range 62 {
		out = append(out, 1<<i-1, 1<<i, 1<<i+1, 1-1<<i, -1<<i, -1<<i-1)
	}
	return out
}

// bytesOf is a word's bytes, by dividing alone.
func bytesOf(x uint64) []byte {
	var out []byte
	for ; x > 127; x /= 128 {
		out = append(out, byte(128+x%128))
	}
	return append(out, byte(x))
}

// again is so many bytes of one kind, and some behind them.
func again(n int, c byte, behind ...byte) []byte {
	return append(bytes.Repeat([]byte{c}, n), behind...)
}

// noWords are bytes with no word at their front.
func noWords() [][]byte {
	out := [][]byte{nil, {}, {128, 0}, {129, 0}, {255, 0}, {128, 128, 0}, {255, 255, 0}, {128, 0, 1}, {172, 130, 0, 5}}
	for n := 1; n <= 12; n++ { // they end too early
		out = append(out, again(n, 128), again(n, 255), again(n, 129))
	}
	for n := 1; n <= 12; n++ { // the last one is 0
		out = append(out, again(n, 128, 0), again(n, 255, 0), again(n, 255, 0, 7))
	}
	for c := 2; c <= 255; c++ { // more than 64 digits in ten bytes
		out = append(out, again(9, 128, byte(c)), again(9, 255, byte(c)), again(9, 128, byte(c), 1))
	}
	for n := 10; n <= 12; n++ { // or in more
		out = append(out, again(n, 128, 1), again(n, 255, 127), again(n, 129, 1, 1))
	}
	return append(out, again(100000, 128, 1), again(100000, 255))
}

func TestPut(t *testing.T) { // P7.1
	for _, x := range someWords() {
		want := bytesOf(x)
		if !bytes.Equal(want, binary.AppendUvarint(nil, x)) {
			t.Fatal("the test itself", x, want)
		}
		for _, b := range [][]byte{nil, {}, {7}, {128}, {255, 0, 1}} {
			kept := slices.Clone(b)
			if got := Put(b, x); !bytes.Equal(got[:len(b)], b) || !bytes.Equal(got[len(b):], want) {
				t.Error(b, x, got)
			}
			if !bytes.Equal(b, kept) {
				t.Error("changed", b, kept)
			}
		}
		if got := Len(x); got != len(want) {
			t.Error("Len", x, got)
		}
	}
	if Len(0) != 1 || Len(127) != 1 || Len(128) != 2 || Len(1<<63-1) != 9 || Len(1<<63) != 10 || Len(math.MaxUint64) != 10 {
		t.Error("ends of Len")
	}
	if got := Put(nil, math.MaxUint64); !bytes.Equal(got, again(9, 255, 1)) {
		t.Error("the greatest", got)
	}
}

func TestGet(t *testing.T) { // P7.1
	for _, x := range someWords() {
		b := bytesOf(x)
		for _, behind := range [][]byte{nil, {0}, {1}, {128}, {255, 255}, b} {
			all := slices.Concat(b, behind)
			kept := slices.Clone(all)
			if got, n, e := Get(all); got != x || n != len(b) || e != api.OK {
				t.Error(x, behind, got, n, e)
			}
			if !bytes.Equal(all, kept) {
				t.Error("changed", all, kept)
			}
		}
		for n := range len(b) { // cut short
			if got, size, e := Get(b[:n]); got != 0 || size != 0 || e != api.ErrForm {
				t.Error(x, n, got, size, e)
			}
		}
	}
	if x, n, e := Get(again(9, 128, 1)); x != 1<<63 || n != 10 || e != api.OK {
		t.Error("the highest digit", x, n, e)
	}
}

func TestGetWrong(t *testing.T) { // P7.1, P1
	for _, b := range noWords() {
		if x, n, e := Get(b); x != 0 || n != 0 || e != api.ErrForm {
			t.Error(b[:min(len(b), 15)], x, n, e)
		}
		if x, n, e := GetInt(b); x != 0 || n != 0 || e != api.ErrForm {
			t.Error("GetInt", b[:min(len(b), 15)], x, n, e)
		}
		if l, n, e := GetList(b, math.MaxInt); len(l) != 0 || n != 0 || e != api.ErrForm {
			t.Error("GetList", b[:min(len(b), 15)], l, n, e)
		}
	}
}

func TestZigZag(t *testing.T) { // P7.2
	for _, c := range []struct {
		n int
		x uint64
	}{
		{0, 0}, {-1, 1}, {1, 2}, {-2, 3}, {2, 4}, {-3, 5}, {63, 126}, {-64, 127}, {64, 128}, {150, 300},
		{1<<32 - 1, 1<<33 - 2}, {-1 << 32, 1<<33 - 1},
		{math.MaxInt, math.MaxUint64 - 1}, {math.MinInt, math.MaxUint64}, {math.MinInt + 1, math.MaxUint64 - 2},
	} {
		if got := Zig(c.n); got != c.x {
			t.Error("Zig", c.n, got)
		}
		if got := Zag(c.x); got != c.n {
			t.Error("Zag", c.x, got)
		}
	}
	for _, n := range numbers() {
		if got := Zag(Zig(n)); got != n {
			t.Error(n, got)
		}
	}
	for _, x := range someWords() {
		if got := Zig(Zag(x)); got != x {
			t.Error(x, got)
		}
	}
}

func TestInts(t *testing.T) { // P7.2
	for _, n := range numbers() {
		want := binary.AppendVarint(nil, int64(n))
		for _, b := range [][]byte{nil, {9}, {128, 0}} {
			if got := PutInt(b, n); !bytes.Equal(got, slices.Concat(b, want)) {
				t.Error("PutInt", b, n, got)
			}
		}
		for _, behind := range [][]byte{nil, {0}, {255}} {
			if got, size, e := GetInt(slices.Concat(want, behind)); got != n || size != len(want) || e != api.OK {
				t.Error("GetInt", n, got, size, e)
			}
		}
	}
}

// lists are none, single numbers, and long ones.
func lists() [][]int {
	out := [][]int{nil, {}, {0}, {-1}, {1, 2}, {0, 0, 0}, {math.MinInt, math.MaxInt}, {math.MinInt, math.MinInt}, numbers(), make([]int, 127), make([]int, 128), make([]int, 20000)}
	for _, n := range numbers() {
		out = append(out, []int{n}, []int{n, 5, n})
	}
	return out
}

// listBytes is a list's bytes, by the library's numbers.
func listBytes(l []int) []byte {
	out := bytesOf(uint64(len(l)))
	for _, n := range l {
		out = binary.AppendVarint(out, int64(n))
	}
	return out
}

func TestLists(t *testing.T) { // P7.2
	for _, l := range lists() {
		want := listBytes(l)
		for _, b := range [][]byte{nil, {9}, {128, 0}} {
			kept := slices.Clone(l)
			if got := PutList(b, l); !bytes.Equal(got, slices.Concat(b, want)) {
				t.Error("PutList", b, l, got)
			}
			if !slices.Equal(l, kept) {
				t.Error("changed", l, kept)
			}
		}
		for _, behind := range [][]byte{nil, {0}, {255}, {1, 2, 3}} {
			for _, most := range []int{len(l), len(l) + 1, math.MaxInt} {
				all := slices.Concat(want, behind)
				kept := slices.Clone(all)
				if got, size, e := GetList(all, most); !slices.Equal(got, l) || size != len(want) || e != api.OK {
					t.Error("GetList", l, most, got, size, e)
				}
				if !bytes.Equal(all, kept) {
					t.Error("changed", all, kept)
				}
			}
		}
	}
}

func TestListsTooLong(t *testing.T) { // P7.2, P1
	for _, l := range lists() {
		for _, most := range []int{len(l) - 1, len(l) / 2, 0, -1, -2, math.MinInt} {
			if most >= len(l) {
				continue
			}
			if got, size, e := GetList(listBytes(l), most); len(got) != 0 || size != 0 || e != api.ErrLong {
				t.Error(l, most, got, size, e)
			}
		}
	}
	for _, c := range []struct {
		b    []byte
		most int
	}{
		{[]byte{0}, -1},                 // of a most below 0 any are too many
		{[]byte{0}, math.MinInt},        //
		{[]byte{2}, 1},                  // ahead of what the numbers are
		{[]byte{2, 128, 0}, 1},          //
		{[]byte{1, 255}, 0},             //
		{bytesOf(1 << 63), math.MaxInt}, // more than any int
		{bytesOf(math.MaxUint64), math.MaxInt},
		{bytesOf(math.MaxUint64), 0},
		{bytesOf(math.MaxUint64), -1},
		{bytesOf(1 << 32), 1<<32 - 1},
	} {
		if got, size, e := GetList(c.b, c.most); len(got) != 0 || size != 0 || e != api.ErrLong {
			t.Error(c.b, c.most, got, size, e)
		}
	}
	for _, b := range noWords() { // how many is no word, whatever most is
		if got, size, e := GetList(b, -1); len(got) != 0 || size != 0 || e != api.ErrForm {
			t.Error(b[:min(len(b), 15)], got, size, e)
		}
	}
}

func TestListsOfNoNumbers(t *testing.T) { // P7.2, P1
	for _, bad := range noWords() {
		for _, b := range [][]byte{slices.Concat([]byte{1}, bad), slices.Concat([]byte{3, 2, 4}, bad)} {
			if got, size, e := GetList(b, 3); len(got) != 0 || size != 0 || e != api.ErrForm {
				t.Error(b[:min(len(b), 15)], got, size, e)
			}
		}
	}
	for _, l := range lists() {
		b := listBytes(l)
		for n := range min(len(b), 300) { // cut short
			if got, size, e := GetList(b[:n], len(l)); len(got) != 0 || size != 0 || e != api.ErrForm {
				t.Error(l, n, got, size, e)
			}
		}
	}
	for _, count := range []uint64{1 << 20, 1 << 31, 1 << 40, math.MaxInt} { // far more than there are bytes
		b := append(bytesOf(count), 1, 2, 3)
		if got, size, e := GetList(b, math.MaxInt); len(got) != 0 || size != 0 || e != api.ErrForm {
			t.Error(count, got, size, e)
		}
	}
}

func TestPutIsGot(t *testing.T) { // P7.3
	for _, behind := range [][]byte{nil, {0}, {127}, {128}, {255, 255, 255}, {3, 2, 1}} {
		for _, x := range someWords() {
			b := Put(nil, x)
			if got, n, e := Get(slices.Concat(b, behind)); got != x || n != len(b) || e != api.OK {
				t.Error(x, got, n, e)
			}
		}
		for _, x := range numbers() {
			b := PutInt(nil, x)
			if got, n, e := GetInt(slices.Concat(b, behind)); got != x || n != len(b) || e != api.OK {
				t.Error(x, got, n, e)
			}
		}
		for _, l := range lists() {
			b := PutList(nil, l)
			if got, n, e := GetList(slices.Concat(b, behind), len(l)); !slices.Equal(got, l) || n != len(b) || e != api.OK {
				t.Error(l, got, n, e)
			}
		}
	}
}

// short tells all runs of so many bytes, each of them one of some.
func short(n int, of []byte, each func([]byte)) {
	if n == 0 {
		each(nil)
		return
	}
	short(n-1, of, func(b []byte) {
		for _, c := range of {
			each(append(slices.Clone(b), c))
		}
	})
}

// putAgain holds what is got of bytes against what is put, and tells whether a word and a list were got.
func putAgain(t *testing.T, b []byte) (bool, bool) {
	x, n, word := Get(b)
	if word == api.OK && !bytes.Equal(Put(nil, x), b[:n]) {
		t.Error("word", b, x, n)
	}
	i, n, number := GetInt(b)
	if number == api.OK && !bytes.Equal(PutInt(nil, i), b[:n]) || number != word {
		t.Error("number", b, i, n)
	}
	l, n, list := GetList(b, math.MaxInt)
	if list == api.OK && !bytes.Equal(PutList(nil, l), b[:n]) {
		t.Error("list", b, l, n)
	}
	return word == api.OK, list == api.OK
}

func TestGotIsPut(t *testing.T) { // P7.3
	var all []byte
	for c := range 256 {
		all = append(all, byte(c))
	}
	got, lists := 0, 0
	each := func(b []byte) {
		word, list := putAgain(t, b)
		if word {
			got++
		}
		if list {
			lists++
		}
	}
	short(1, all, each)
	short(2, all, each)
	if got != 128+128*256+128*127 {
		t.Error("words", got)
	}
	some := []byte{0, 1, 2, 3, 127, 128, 129, 255}
	for n := 3; n <= 5; n++ {
		short(n, some, each)
	}
	short(3, some, func(b []byte) { each(slices.Concat(again(8, 128), b)) })
	if lists == 0 {
		t.Error("no list was got")
	}
}

func TestAnswersAreNew(t *testing.T) { // Rule 4
	room := []byte{1, 2, 3, 4, 5, 6, 7, 8, 9, 10, 11, 12}
	kept := slices.Clone(room)
	for _, put := range []func([]byte) []byte{
		func(b []byte) []byte { return Put(b, math.MaxUint64) },
		func(b []byte) []byte { return PutInt(b, -1) },
		func(b []byte) []byte { return PutList(b, []int{70, 71, 72}) },
		func(b []byte) []byte { return PutList(b, nil) },
	} {
		first := put(room[:1])
		if !bytes.Equal(room, kept) {
			t.Error("written behind what was handed in", room)
		}
		second := put(first)
		third := put(first)
		third[len(first)], third[0] = 99, 98
		first[0] = 97
		if !bytes.Equal(room, kept) || second[0] != 1 || second[len(first)] == 99 {
			t.Error("shared", room, first, second, third)
		}
	}
	b := []byte{2, 2, 4}
	l, _, _ := GetList(b, 2)
	l[0] = 9
	if again, _, _ := GetList(b, 2); !slices.Equal(again, []int{1, 2}) {
		t.Error(again)
	}
}

func TestExample(t *testing.T) {
	if b := Put(nil, 300); !bytes.Equal(b, []byte{0xac, 0x02}) {
		t.Error(b)
	}
	if b := PutInt(nil, -1); !bytes.Equal(b, []byte{1}) {
		t.Error(b)
	}
	if b := PutList(nil, []int{1, 2}); !bytes.Equal(b, []byte{2, 2, 4}) {
		t.Error(b)
	}
}
