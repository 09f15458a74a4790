package words

import (
	"math"
	"math/big"
	"slices"
	"strings"
	"testing"

	"sakia/api"
)

// badBytes are texts of no word and no blank: control bytes, those above 126, runes of more bytes, and what is no rune.
func badBytes() []string {
	var out []string
	for b := range 256 {
		if b < 32 || b > 126 {
			out = append(out, string([]byte{byte(b)}))
		}
	}
	return append(out, "\u00e9", "\u00a0", "\u2028", "\u3000", "\ufffd", "\U0001f600", "\xed\xa0\x80", "\xf4\x90\x80\x80", "\xc0\xa0", "\xe2\x82")
}

// noLines are texts that are no lines, one of each kind of blank and byte.
func noLines() []string {
	out := []string{" ", "  ", " a", "a ", " a ", "a  b", "a b  c", "  a", "a  ", "a b ", " a b", "a\tb", "a\nb", "a\n", "\n", "a\rb", "a b\r"}
	for _, bad := range badBytes() {
		out = append(out, bad, "a"+bad, bad+"a", "a"+bad+"b", "a "+bad, "a "+bad+" b", bad+" a")
	}
	return out
}

// rows are lists of words.
func rows() [][]string {
	var each []string
	for b := 33; b <= 126; b++ {
		each = append(each, string(rune(b)))
	}
	return [][]string{nil, {"a"}, {"a", "b"}, {"!", "~"}, {"-", ",", "."}, {"ring", "one", "32", "2", "1", "0", "."},
		{"aa", "aa", "a"}, {strings.Repeat("x", 1000), "y"}, each, {strings.Join(each, "")}}
}

func TestSplit(t *testing.T) { // P6.1
	for _, c := range []struct {
		s    string
		want []string
	}{
		{"", nil},
		{"a", []string{"a"}},
		{"!", []string{"!"}},
		{"~", []string{"~"}},
		{"a b", []string{"a", "b"}},
		{"0 send 5,6", []string{"0", "send", "5,6"}},
		{"a b a", []string{"a", "b", "a"}},
	} {
		if l, e := Split(c.s); !slices.Equal(l, c.want) || e != api.OK {
			t.Errorf("%q %q %v", c.s, l, e)
		}
	}
	for _, s := range noLines() {
		if l, e := Split(s); len(l) != 0 || e != api.ErrForm {
			t.Errorf("%q %q %v", s, l, e)
		}
	}
}

func TestSplitLong(t *testing.T) { // P6.1
	word := strings.Repeat("x", 65536)
	if l, e := Split(word); !slices.Equal(l, []string{word}) || e != api.OK {
		t.Error("one word", len(l), e)
	}
	many := "b" + strings.Repeat(" a", 32767) + "c"
	if l, e := Split(many); len(many) != 65536 || len(l) != 32768 || l[0] != "b" || l[1] != "a" || l[32767] != "ac" || e != api.OK {
		t.Error("many words", len(many), len(l), e)
	}
	for _, s := range []string{word[1:] + " ", word[1:] + "\n", " " + word[1:], word[1:] + "\x80"} {
		if l, e := Split(s); len(l) != 0 || e != api.ErrForm {
			t.Error("no line", len(l), e)
		}
	}
	for _, s := range []string{word + "x", word + " ", "  " + word, word + "\n", strings.Repeat("\x80", 65537), strings.Repeat(word, 4)} {
		if l, e := Split(s); len(l) != 0 || e != api.ErrLong {
			t.Error("long", len(s), len(l), e)
		}
	}
}

func TestJoin(t *testing.T) { // P6.1
	for _, c := range []struct {
		l    []string
		want string
	}{
		{nil, ""},
		{[]string{}, ""},
		{[]string{""}, ""},
		{[]string{"a"}, "a"},
		{[]string{"a", "b"}, "a b"},
		{[]string{"a", "b", "cd"}, "a b cd"},
		{[]string{"", ""}, " "},
		{[]string{"a", "", "b"}, "a  b"},
		{[]string{" ", "\n", "\xff"}, "  \n \xff"},
	} {
		kept := slices.Clone(c.l)
		if got := Join(c.l...); got != c.want {
			t.Errorf("%q %q", c.l, got)
		}
		if !slices.Equal(kept, c.l) {
			t.Error("changed", kept, c.l)
		}
	}
	long := Join(strings.Repeat("x", 65536), "y")
	if len(long) != 65538 || !strings.HasSuffix(long, "x y") {
		t.Error("long", len(long))
	}
}

func TestLines(t *testing.T) { // P6.1
	for _, c := range []struct {
		s    string
		want []string
		at   int
		e    api.Errno
	}{
		{"", nil, 0, api.OK},
		{"\n", []string{""}, 0, api.OK},
		{"\n\n", []string{"", ""}, 0, api.OK},
		{"a\n", []string{"a"}, 0, api.OK},
		{"a b\nc\n", []string{"a b", "c"}, 0, api.OK},
		{"a\n\nb\n", []string{"a", "", "b"}, 0, api.OK},
		{"a", nil, 1, api.ErrForm},
		{" ", nil, 1, api.ErrForm},
		{"a\nb", nil, 2, api.ErrForm},
		{"a b\nc\nd", nil, 3, api.ErrForm},
		{"\nb", nil, 2, api.ErrForm},
		{"\n\n ", nil, 3, api.ErrForm},
		{"a\r\nb\n", nil, 1, api.ErrForm},
		{"a  b\nc", nil, 1, api.ErrForm}, // the first one that is wrong
		{"a\nb \n c\n", nil, 2, api.ErrForm},
		{"a\n \nb\n", nil, 2, api.ErrForm},
	} {
		l, at, e := Lines(c.s)
		if !slices.Equal(l, c.want) || at != c.at || e != c.e {
			t.Errorf("%q %q %v %v", c.s, l, at, e)
		}
	}
	for _, s := range noLines() {
		if strings.Contains(s, "\n") {
			continue // that is other lines
		}
		if l, at, e := Lines("a\n\n" + s + "\nb\n"); len(l) != 0 || at != 3 || e != api.ErrForm {
			t.Errorf("%q %q %v %v", s, l, at, e)
		}
	}
}

func TestLinesLong(t *testing.T) { // P6.1
	ends := strings.Repeat("\n", 65536)
	if l, at, e := Lines(ends); len(l) != 65536 || at != 0 || e != api.OK {
		t.Error("empty lines", len(l), at, e)
	}
	word := strings.Repeat("x", 65535)
	if l, at, e := Lines(word + "\n"); !slices.Equal(l, []string{word}) || at != 0 || e != api.OK {
		t.Error("one line", len(l), at, e)
	}
	if l, at, e := Lines(ends[1:] + "a"); len(l) != 0 || at != 65536 || e != api.ErrForm {
		t.Error("the last one has no end", len(l), at, e)
	}
	for _, s := range []string{ends + "\n", ends + " ", word + "x\n", " " + ends, strings.Repeat("\x80", 65537)} {
		if l, at, e := Lines(s); len(l) != 0 || at != 0 || e != api.ErrLong {
			t.Error("long", len(l), at, e)
		}
	}
}

// numbers are ints about nought, where words grow longer, and at the ends.
func numbers() []int {
	out := []int{math.MaxInt, math.MaxInt - 1, math.MinInt, math.MinInt + 1, 1 << 31, -1 << 31, 1 << 32, 1<<53 + 1, -123456789}
	for n := -120; n <= 120; n++ {
		out = append(out, n)
	}
	for p := 1000; p > 0 && p < math.MaxInt/10; p *= 10 {
		out = append(out, p-1, p, p+1, 1-p, -p, -p-1)
	}
	return out
}

// noNumbers are texts that are no number's word, with a sign or without.
func noNumbers() []string {
	out := []string{"", "-", "+", "--1", "+1", "+0", "-0", "-00", "00", "01", "007", "-01", "-007", "0x1", "0b1", "0o7", "1_000", "1e3", "1.", "1.0", ".", ".5",
		" 1", "1 ", "1 2", "1\n", "\t1", "1,2", ",", "a", "1a", "a1", "1-", "1-2", "Inf", "nan", "\u0663", "\uff11", "\u22121", "1\x00", "\xff",
		"18446744073709551616", "99999999999999999999", "100000000000000000000", "-9223372036854775809", "-9223372036854775810", "-18446744073709551616",
		"00000000000000000000000000000001", strings.Repeat("9", 70000), "-" + strings.Repeat("9", 70000), strings.Repeat("0", 70000)}
	for _, bad := range badBytes() {
		out = append(out, bad, "1"+bad, bad+"1", "1"+bad+"2")
	}
	return out
}

func TestNum(t *testing.T) { // P6.2
	for _, n := range numbers() {
		word := big.NewInt(int64(n)).String()
		if got, ok := Num(word); got != n || !ok {
			t.Error(word, got, ok)
		}
		for _, s := range []string{"0" + word, "+" + word, word + " ", " " + word, word + ".", "--" + word} {
			if got, ok := Num(s); got != 0 || ok {
				t.Error(s, got, ok)
			}
		}
	}
	for _, s := range append(noNumbers(), "9223372036854775808", "9223372036854775810", "18446744073709551615") {
		if got, ok := Num(s); got != 0 || ok {
			t.Errorf("%.50q %v %v", s, got, ok)
		}
	}
	if n, ok := Num("-9223372036854775808"); n != math.MinInt || !ok {
		t.Error(n, ok)
	}
}

// bigs are numbers without a sign about nought, the ints' end, and their own.
func bigs() []uint64 {
	out := []uint64{1<<63 - 1, 1 << 63, 1<<63 + 1, math.MaxUint64, math.MaxUint64 - 1, 10000000000000000000, 9999999999999999999}
	for _, n := range numbers() {
		if n >= 0 {
			out = append(out, uint64(n))
		}
	}
	return out
}

func TestBig(t *testing.T) { // P6.2
	for _, x := range bigs() {
		word := new(big.Int).SetUint64(x).String()
		if got, ok := Big(word); got != x || !ok {
			t.Error(word, got, ok)
		}
		for _, s := range []string{"0" + word, "+" + word, "-" + word, word + " ", " " + word} {
			if got, ok := Big(s); got != 0 || ok {
				t.Error(s, got, ok)
			}
		}
	}
	for _, s := range noNumbers() {
		if got, ok := Big(s); got != 0 || ok {
			t.Errorf("%.50q %v %v", s, got, ok)
		}
	}
	if x, ok := Big("18446744073709551615"); x != math.MaxUint64 || !ok {
		t.Error(x, ok)
	}
}

func TestList(t *testing.T) { // P6.2
	for _, c := range []struct {
		s    string
		want []int
	}{
		{".", nil},
		{"0", []int{0}},
		{"-5", []int{-5}},
		{"1,-2", []int{1, -2}},
		{"7,7,0,7", []int{7, 7, 0, 7}},
		{"9223372036854775807,-9223372036854775808", []int{math.MaxInt, math.MinInt}},
	} {
		if l, ok := List(c.s); !slices.Equal(l, c.want) || !ok {
			t.Error(c.s, l, ok)
		}
	}
	wrong := []string{"", ",", "1,", ",1", "1,,2", ".,1", "1,.", ".,.", "..", "1, 2", "1 ,2", "1 2", " 1", "1\n", "1;2", "[1]", "1,-", "1,-0", "1,01", "1,+2", "-", "1,9223372036854775808", "9223372036854775808,1"}
	for _, s := range wrong {
		if l, ok := List(s); len(l) != 0 || ok {
			t.Errorf("%q %v %v", s, l, ok)
		}
	}
	for _, w := range noNumbers() {
		for _, s := range []string{w + ",1", "1," + w, "1," + w + ",2"} {
			if w == "1,2" {
				continue // that is two numbers
			}
			if l, ok := List(s); len(l) != 0 || ok {
				t.Errorf("%.50q %v %v", s, l, ok)
			}
		}
	}
	long := strings.Repeat("1,", 100000) + "1" // of words no length is asked
	if l, ok := List(long); len(l) != 100001 || !ok {
		t.Error("long", len(l), ok)
	}
}

func TestShow(t *testing.T) { // P6.2
	for _, n := range numbers() {
		if got := Show(n); got != big.NewInt(int64(n)).String() {
			t.Error(n, got)
		}
	}
	for _, x := range bigs() {
		if got := ShowBig(x); got != new(big.Int).SetUint64(x).String() {
			t.Error(x, got)
		}
	}
	if Show(0) != "0" || Show(-7) != "-7" || ShowBig(0) != "0" || Show(math.MinInt) != "-9223372036854775808" || ShowBig(math.MaxUint64) != "18446744073709551615" {
		t.Error("ends")
	}
	for _, c := range []struct {
		l    []int
		want string
	}{
		{nil, "."},
		{[]int{}, "."},
		{[]int{0}, "0"},
		{[]int{-3}, "-3"},
		{[]int{1, -2}, "1,-2"},
		{[]int{10, 0, 10}, "10,0,10"},
		{[]int{math.MinInt, math.MaxInt}, "-9223372036854775808,9223372036854775807"},
	} {
		kept := slices.Clone(c.l)
		if got := ShowList(c.l); got != c.want {
			t.Error(c.l, got)
		}
		if !slices.Equal(kept, c.l) {
			t.Error("changed", kept, c.l)
		}
	}
}

func TestShownIsRead(t *testing.T) { // P6.3
	for _, n := range numbers() {
		if got, ok := Num(Show(n)); got != n || !ok {
			t.Error(n, got, ok)
		}
	}
	for _, x := range bigs() {
		if got, ok := Big(ShowBig(x)); got != x || !ok {
			t.Error(x, got, ok)
		}
	}
	all := numbers()
	for i := range all {
		for _, l := range [][]int{all[:i], all[i:], all[i : i+1]} {
			if got, ok := List(ShowList(l)); !slices.Equal(got, l) || !ok {
				t.Error(l, got, ok)
			}
		}
	}
}

// short tells all texts of up to so many of some bytes.
func short(bytes string, most int, each func(string)) {
	each("")
	if most == 0 {
		return
	}
	for i := range len(bytes) {
		short(bytes, most-1, func(s string) {
			each(bytes[i:i+1] + s)
		})
	}
}

func TestReadWasShown(t *testing.T) { // P6.3
	nums, bigger, lists := 0, 0, 0
	short("01-+,. ", 6, func(s string) {
		if n, ok := Num(s); ok {
			nums++
			if Show(n) != s {
				t.Errorf("%q %v", s, n)
			}
		}
		if x, ok := Big(s); ok {
			bigger++
			if ShowBig(x) != s {
				t.Errorf("%q %v", s, x)
			}
		}
		if l, ok := List(s); ok {
			lists++
			if ShowList(l) != s {
				t.Errorf("%q %v", s, l)
			}
		}
	})
	if nums == 0 || bigger == 0 || lists <= nums {
		t.Error("nothing was read", nums, bigger, lists)
	}
}

func TestJoinedIsSplit(t *testing.T) { // P6.4
	for _, l := range rows() {
		got, e := Split(Join(l...))
		if !slices.Equal(got, l) || e != api.OK {
			t.Errorf("%q %q %v", l, got, e)
		}
	}
	split := 0
	short("a~! \n\x7f", 6, func(s string) {
		if l, e := Split(s); e == api.OK {
			split++
			if Join(l...) != s || slices.Contains(l, "") {
				t.Errorf("%q %q", s, l)
			}
		}
	})
	if split == 0 {
		t.Error("nothing was split")
	}
}

func TestAnswersAreNew(t *testing.T) { // Rule 4
	a, _ := Split("a b")
	a[0] = "x"
	if b, _ := Split("a b"); b[0] != "a" {
		t.Error("Split", b)
	}
	c, _, _ := Lines("a\nb\n")
	c[0] = "x"
	if d, _, _ := Lines("a\nb\n"); d[0] != "a" {
		t.Error("Lines", d)
	}
	e, _ := List("1,2")
	e[0] = 9
	if f, _ := List("1,2"); f[0] != 1 {
		t.Error("List", f)
	}
}

func TestExample(t *testing.T) {
	if l, e := Split("a  b"); len(l) != 0 || e != api.ErrForm {
		t.Error(l, e)
	}
	if l, ok := List("1,-2"); !slices.Equal(l, []int{1, -2}) || !ok {
		t.Error(l, ok)
	}
	if n, ok := Num("007"); n != 0 || ok {
		t.Error(n, ok)
	}
}
