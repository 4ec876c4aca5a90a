package lex

import (
	"math"
	"slices"
	"strconv"
	"strings"
	"testing"
	"unsafe"

	"alfil/api"
)

// names are all names of squares, in their order, written out so that no test leans on the program's own sums.
const names = "a1 b1 c1 d1 e1 f1 g1 h1 " +
	"a2 b2 c2 d2 e2 f2 g2 h2 " +
	"a3 b3 c3 d3 e3 f3 g3 h3 " +
	"a4 b4 c4 d4 e4 f4 g4 h4 " +
	"a5 b5 c5 d5 e5 f5 g5 h5 " +
	"a6 b6 c6 d6 e6 f6 g6 h6 " +
	"a7 b7 c7 d7 e7 f7 g7 h7 " +
	"a8 b8 c8 d8 e8 f8 g8 h8"

// ahead are texts that stand ahead of a piece; some end within a sign of several bytes.
var ahead = []string{"", "x", "7", "0", "\n", "a1\n", "é", "♔", "\xc3", "\xe2\x99", "\xff", "\x00", strings.Repeat("ab\n", 40)}

// behind are texts that stand behind a piece; none begins with a digit.
var behind = []string{" ", "x", "\n", ".5", "-", "/", ":", "é", "♔", "١", "\xff", "\x80", "\x00", "a1", "\nbegin\n"}

// noPlaces are numbers that are no place of a text of that length; some would be one if they were cut to fewer bits, or their sign were lost.
func noPlaces(length int) []int {
	return []int{-1, -2, -length - 1, length + 1, length + 2, length + 256, length + 1<<16, length + 1<<32, 1 << 32, 1 << 16, math.MinInt32, math.MaxInt32, math.MinInt, math.MinInt + 1, math.MaxInt - 1, math.MaxInt}
}

func ends(at, n int) api.Step { return api.Step{At: at, N: n} }
func wrong(at int) api.Step   { return api.Step{At: at, E: api.ErrText} }
func open(at int) api.Step    { return api.Step{At: at, E: api.ErrEnd} }
func barred() api.Step        { return api.Step{E: api.ErrArg} }

// reading is a call that reads a piece at a place.
type reading func(t string, at int) api.Step

func word(w string) reading {
	return func(t string, at int) api.Step { return Word(t, at, w) }
}

func oneOf(words ...string) reading {
	return func(t string, at int) api.Step { return OneOf(t, at, words) }
}

func number(least, most int) reading {
	return func(t string, at int) api.Step { return Number(t, at, least, most) }
}

func line(t string, at int) api.Step {
	_, step := Line(t, at)
	return step
}

// reads holds what is read of a text at its beginning, and behind others, against a step of the text alone.
func reads(t *testing.T, call reading, text string, want api.Step) {
	t.Helper()
	for _, a := range ahead {
		moved := want
		moved.At += len(a)
		if got := call(a+text, len(a)); got != moved {
			t.Errorf("%q behind %q: %v, not %v", text, a, got, moved)
			return
		}
	}
}

// refuses holds what is read at each wrong place of a text, and at none but those.
func refuses(t *testing.T, call reading, text string) {
	t.Helper()
	for _, at := range noPlaces(len(text)) {
		if got := call(text, at); got != barred() {
			t.Errorf("%q at %d: %v", text, at, got)
		}
	}
	for at := range len(text) + 1 {
		if got := call(text, at); got.E == api.ErrArg {
			t.Errorf("%q at %d: %v", text, at, got)
		}
	}
}

// P14.1: Word, whole, with more behind and with none.
func TestWord(t *testing.T) {
	for _, w := range []string{"x", "begin\n", "a b", "é", "♔", "x♔y", "\xff", "\xe2\x99", "\x00", "\n", strings.Repeat("long ", 300)} {
		reads(t, word(w), w, ends(len(w), 0))
		for _, b := range behind {
			reads(t, word(w), w+b, ends(len(w), 0))
		}
		reads(t, word(w), w+w, ends(len(w), 0))
	}
}

// P14.1: an empty word is read everywhere, at the text's end too.
func TestWordEmpty(t *testing.T) {
	for _, text := range append([]string{"", "begin", "♔♔"}, behind...) {
		reads(t, word(""), text, ends(0, 0))
		for at := range len(text) + 1 {
			if got := Word(text, at, ""); got != ends(at, 0) {
				t.Errorf("%q at %d: %v", text, at, got)
			}
		}
		refuses(t, word(""), text)
	}
}

// P14.1: Word, where a byte is wrong, the first, one within, the last.
func TestWordWrong(t *testing.T) {
	for _, c := range []struct {
		text, w string
		at      int
	}{
		{"x", "b", 0}, {"xegin", "begin", 0}, {"begim", "begin", 4}, {"bexin\n", "begin\n", 2}, {"begin ", "begin\n", 5}, {"begin\r\n", "begin\n", 5},
		{"Begin", "begin", 0}, {"beGin", "begin", 2}, {" begin", "begin", 0}, {"\x00", "x", 0}, {"x\x00", "xx", 1},
		{"é", "x", 0}, {"xé", "xx", 1}, {"x♔x", "xxx", 1}, {"\xff", "x", 0}, {"b\xffgin", "begin", 1},
		// Signs of several bytes, of which the first ones are the same.
		{"è", "é", 1}, {"xè", "xé", 2}, {"♚", "♔", 2}, {"♚x", "♔x", 2}, {"\u2714", "♔", 1}, {"x", "♔", 0}, {"♔♚", "♔♔", 5}, {"e", "é", 0},
		{"\xc3x", "é", 1}, {"\xe2\x99x", "♔", 2}, {"\xe2x", "♔", 1},
		// What is no sign isn't the same as other bytes that are none.
		{"\xff", "\xfe", 0}, {"\xff\xfe", "\xff\xff", 1}, {"\ufffd", "\xff", 0}, {"\xff", "\ufffd", 0}, {"\xc3\xff", "\xc3\xfe", 1}, {"\x80", "\x81", 0},
	} {
		reads(t, word(c.w), c.text, wrong(c.at))
		for _, b := range behind {
			reads(t, word(c.w), c.text+b, wrong(c.at))
		}
	}
}

// P14.1: Word, of a text that ends within it, and of an empty rest.
func TestWordEnd(t *testing.T) {
	for _, w := range []string{"x", "begin\n", "♔x", "é", "\xff\xff", strings.Repeat("long ", 30)} {
		for end := range len(w) {
			reads(t, word(w), w[:end], open(end))
		}
	}
}

// P14.1: Word, of every text and word of up to three bytes out of a few, held against the longest beginning that both have.
func TestWordAll(t *testing.T) {
	all := allTexts([]string{"a", "b", "\xc3", "\xa9"}, 3)
	for _, text := range all {
		for _, w := range all {
			for at := range len(text) + 1 {
				want := read(text, at, []string{w})
				if got := Word(text, at, w); got != want {
					t.Fatalf("%q at %d, %q: %v, not %v", text, at, w, got, want)
				}
			}
		}
	}
}

// P14.1: Word, at what is no place.
func TestWordPlace(t *testing.T) {
	for _, text := range []string{"", "x", "begin\n", "♔"} {
		for _, w := range []string{"x", "begin\n", "♔", "n"} {
			refuses(t, word(w), text)
		}
	}
}

// P14.1: OneOf, each of some words, with more behind and with none.
func TestOneOf(t *testing.T) {
	for _, words := range [][]string{
		{"x"}, {"cat", "cow", "car"}, {"s#", "semi-r#", "ser-#", "ser-h#", "#", "=", "h#"}, {"option ", "end\n"},
		{"♔", "♕", "♖"}, {"é", "è", "e"}, {"\xff", "\xfe", "\ufffd"}, {"b", "a"}, {"ab", "aa", "b"}, {"\n", "\x00"}, strings.Fields(names),
	} {
		call := oneOf(words...)
		for n, w := range words {
			reads(t, call, w, ends(len(w), n))
			for _, b := range behind {
				reads(t, call, w+b, ends(len(w), n))
			}
			for _, other := range words {
				reads(t, call, w+other, ends(len(w), n))
			}
		}
	}
}

// P14.1: OneOf, where none of the words goes on; words begin as others do.
func TestOneOfWrong(t *testing.T) {
	animals := []string{"cat", "cow", "car"}
	kinds := []string{"s#", "semi-r#", "ser-#", "ser-h#", "#"}
	crowns := []string{"♔x", "♕", "x♔"}
	for _, c := range []struct {
		text  string
		words []string
		at    int
	}{
		{"q", []string{"s#"}, 0}, {"x", animals, 0}, {"dog", animals, 0}, {"cxt", animals, 1}, {"cab", animals, 2}, {"cox", animals, 2}, {"ct", animals, 1}, {"ca\n", animals, 2}, {"Cat", animals, 0}, {" cat", animals, 0},
		{"sex", kinds, 2}, {"semi#", kinds, 4}, {"ser#", kinds, 3}, {"ser-x", kinds, 4}, {"ser-h=", kinds, 5}, {"s=", kinds, 1}, {"sem-", kinds, 3}, {"serh#", kinds, 3}, {"h#", kinds, 0}, {"se\x00", kinds, 2},
		{"♖", crowns, 2}, {"♔y", crowns, 3}, {"é", crowns, 0}, {"x♕", crowns, 3}, {"xx", crowns, 1}, {"\xe2x", crowns, 1}, {"\xe2\x99x", crowns, 2}, {"\xff", crowns, 0}, {"xé", crowns, 1}, {"x\u2714", crowns, 2},
		{"\xfd", []string{"\xff", "\xfe"}, 0}, {"\xff\xfd", []string{"\xff\xff", "\xff\xfe", "\xfd"}, 1},
	} {
		reads(t, oneOf(c.words...), c.text, wrong(c.at))
		for _, b := range behind {
			reads(t, oneOf(c.words...), c.text+b, wrong(c.at))
		}
		slices.Reverse(c.words)
		reads(t, oneOf(c.words...), c.text, wrong(c.at))
		slices.Reverse(c.words)
	}
}

// P14.1: OneOf, of a text that ends within a word, and of an empty rest.
func TestOneOfEnd(t *testing.T) {
	for _, words := range [][]string{{"x"}, {"cat", "cow", "car"}, {"s#", "semi-r#", "ser-#"}, {"♔", "♕"}, {"ab", "b", "aca"}} {
		for _, w := range words {
			for end := range len(w) {
				reads(t, oneOf(words...), w[:end], open(end))
			}
		}
	}
}

// P14.1: OneOf, of every text of up to three bytes out of a few, by every list of up to three words of them, held against a reading of its own.
func TestOneOfAll(t *testing.T) {
	signs := []string{"a", "b", "\xc3"}
	texts, all := allTexts(signs, 3), allTexts(signs, 2)
	var check func(words []string)
	check = func(words []string) {
		for _, text := range texts {
			want := barred()
			if apartByPairs(words) {
				want = read(text, 0, words)
			}
			if got := OneOf(text, 0, words); got != want {
				t.Fatalf("%q, %q: %v, not %v", text, words, got, want)
			}
		}
		if len(words) < 3 {
			for _, w := range all {
				check(append(words[:len(words):len(words)], w))
			}
		}
	}
	check(nil)
}

// P14.1: OneOf, of words that aren't words, wherever in the list, at right places and wrong ones.
func TestOneOfWords(t *testing.T) {
	for _, words := range [][]string{
		nil, {}, {""}, {"", ""}, {"", "cat"}, {"cat", ""}, {"cat", "", "dog"},
		{"a", "ab"}, {"ab", "a"}, {"cat", "dog", "catch"}, {"catch", "dog", "cat"}, {"b", "ab", "a"}, {"a", "b", "abc", "c"}, {"abc", "x", "y", "abcd", "z"}, {"ab", "b", "abcdef", "abc"},
		{"cat", "cat"}, {"cat", "dog", "cat"}, {"dog", "cat", "cat"}, {"x", "x", "x"},
		{"\xc3", "é"}, {"♔", "\xe2\x99"}, {"\xff", "\xff"}, {"\xff\xfe", "\xff"}, {"\x00", "\x00\x00"},
		append(strings.Fields(names), "a1"), append(strings.Fields(names), "h"), append(strings.Fields(names), "h88"), append(strings.Fields(names), ""),
	} {
		for _, text := range []string{"", "cat", "a", "ab", "abc", "x", "é", "\xff", "h8", "dog\n"} {
			for at := range len(text) + 1 {
				if got := OneOf(text, at, words); got != barred() {
					t.Errorf("%q at %d, %q: %v", text, at, words, got)
				}
			}
			for _, at := range noPlaces(len(text)) {
				if got := OneOf(text, at, words); got != barred() {
					t.Errorf("%q at %d, %q: %v", text, at, words, got)
				}
			}
		}
	}
	// The end of another word, or a part within it, may be a word.
	parts := []string{"scat", "cat", "at", "t"}
	for n, w := range parts {
		reads(t, oneOf(parts...), w, ends(len(w), n))
	}
}

// P14.1: OneOf, at what is no place.
func TestOneOfPlace(t *testing.T) {
	for _, text := range []string{"", "x", "cat", "cow\n", "♔"} {
		refuses(t, oneOf("cat", "cow", "x", "♔"), text)
	}
}

// P14.1, R1: OneOf, of as many words as may be.
func TestOneOfMany(t *testing.T) {
	var words []string
	for n := range 1 << 16 {
		words = append(words, strconv.Itoa(n+100000))
	}
	call := oneOf(words...)
	reads(t, call, words[0], ends(6, 0))
	reads(t, call, words[65535]+"x", ends(6, 65535))
	reads(t, call, "165536", wrong(5))
	reads(t, call, "16", open(2))
	if got := OneOf("165535", 0, append(words, "12345")); got != barred() {
		t.Error(got)
	}
}

// allTexts are all texts of up to so many signs.
func allTexts(signs []string, most int) []string {
	out := []string{""}
	for from, many := 0, 1; many <= most; many++ {
		upTo := len(out)
		for ; from < upTo; from++ {
			for _, sign := range signs {
				out = append(out, out[from]+sign)
			}
		}
	}
	return out
}

// apartByPairs holds each two words against each other.
func apartByPairs(words []string) bool {
	for n, a := range words {
		for other, b := range words {
			if a == "" || n != other && strings.HasPrefix(a, b) {
				return false
			}
		}
	}
	return len(words) > 0
}

// read goes on, byte by byte, while there is a word that has all bytes up to here.
func read(text string, at int, words []string) api.Step {
	for end := at; ; end++ {
		left := false
		for n, w := range words {
			if w == text[at:end] {
				return ends(end, n)
			}
			left = left || strings.HasPrefix(w, text[at:end])
		}
		if !left {
			return wrong(end - 1)
		}
		if end == len(text) {
			return open(end)
		}
	}
}

// P14.2: Number, within its bounds, with more behind and with none.
func TestNumber(t *testing.T) {
	for _, c := range []struct {
		text           string
		least, most, n int
	}{
		{"1", 1, 64, 1}, {"5", 1, 64, 5}, {"9", 1, 64, 9}, {"10", 1, 64, 10}, {"64", 1, 64, 64}, {"60", 1, 64, 60}, {"63", 1, 64, 63},
		{"0", 0, 4, 0}, {"4", 0, 4, 4}, {"1000", 1, 1000, 1000}, {"999", 1, 1000, 999}, {"100", 1, 1000, 100}, {"101", 1, 1000, 101},
		{"0", 0, 0, 0}, {"1", 1, 1, 1}, {"7", 7, 7, 7}, {"64", 64, 64, 64}, {"10", 10, 10, 10},
		{"1000000", 1000000, 1000000, 1000000}, {"1000000", 0, 1000000, 1000000}, {"999999", 0, 1000000, 999999}, {"100001", 1, 1000000, 100001}, {"0", 0, 1000000, 0}, {"123456", 1, 999999, 123456},
		{"10", 10, 64, 10}, {"11", 10, 64, 11}, {"8", 7, 64, 8},
	} {
		reads(t, number(c.least, c.most), c.text, ends(len(c.text), c.n))
		for _, b := range behind {
			reads(t, number(c.least, c.most), c.text+b, ends(len(c.text), c.n))
		}
	}
}

// P14.2: Number, where a byte is wrong: no digit, noughts, digits by which it would be above the bound; whatever stands behind.
func TestNumberWrong(t *testing.T) {
	for _, c := range []struct {
		text            string
		least, most, at int
	}{
		{"x", 0, 64, 0}, {"-1", 0, 64, 0}, {"+1", 0, 64, 0}, {" 1", 0, 64, 0}, {"\n1", 0, 64, 0}, {".5", 0, 64, 0}, {"/", 0, 64, 0}, {":", 0, 64, 0}, {"\x00", 0, 64, 0}, {"a1", 1, 64, 0},
		{"é", 0, 64, 0}, {"٣", 0, 64, 0}, {"１", 0, 64, 0}, {"²", 0, 64, 0}, {"\xff", 0, 64, 0}, {"\x801", 0, 64, 0}, {"\xe2\x99", 1, 1, 0}, {"\ufffd", 0, 64, 0}, {"\U00010031", 0, 64, 0}, {"ı", 0, 64, 0}, {"š", 0, 64, 0},
		{"65", 1, 64, 1}, {"65", 0, 64, 1}, {"640", 1, 64, 2}, {"641", 1, 64, 2}, {"70", 1, 64, 1}, {"99", 1, 64, 1}, {"100", 1, 64, 2}, {"1001", 1, 1000, 3}, {"10000", 1, 1000, 4}, {"2000", 1, 1000, 3},
		{"5", 0, 4, 0}, {"9", 1, 4, 0}, {"40", 0, 4, 1}, {"44", 0, 4, 1}, {"1", 0, 0, 0}, {"9", 0, 0, 0}, {"2", 1, 1, 0}, {"11", 1, 1, 1}, {"10", 1, 1, 1}, {"8", 7, 7, 0},
		{"1000001", 1, 1000000, 6}, {"1000001", 0, 1000000, 6}, {"10000000", 0, 1000000, 7}, {"2000000", 0, 1000000, 6}, {"9999999", 0, 1000000, 6}, {"1000000", 0, 999999, 6},
		{"18446744073709551617", 0, 1000000, 6}, {"4294967297", 0, 64, 2}, {"99999999999999999999999999", 1, 1000000, 6}, {strings.Repeat("1", 3000), 1, 64, 2},
		{"0", 1, 64, 0}, {"00", 1, 64, 0}, {"01", 1, 64, 0}, {"07", 5, 64, 0}, {"0", 64, 64, 0}, {"0", 1, 1000000, 0},
		{"00", 0, 64, 1}, {"07", 0, 64, 1}, {"000", 0, 64, 1}, {"010", 0, 64, 1}, {"00", 0, 0, 1}, {"01", 0, 0, 1}, {"01", 0, 1000000, 1}, {"0064", 0, 64, 1},
		{"70", 60, 64, 1}, {"79", 60, 64, 1},
	} {
		reads(t, number(c.least, c.most), c.text, wrong(c.at))
		for _, b := range append([]string{"0", "9"}, behind...) {
			reads(t, number(c.least, c.most), c.text+b, wrong(c.at))
		}
	}
}

// P14.2: Number, of one below least: it is wrong where it ends, if the text doesn't end there.
func TestNumberBelow(t *testing.T) {
	for _, c := range []struct {
		text        string
		least, most int
	}{
		{"5", 10, 64}, {"9", 10, 64}, {"1", 10, 10}, {"9", 10, 10}, {"1", 2, 64}, {"63", 64, 64}, {"6", 64, 64}, {"7", 64, 64}, {"7", 60, 64}, {"99", 100, 1000}, {"10", 100, 1000}, {"999999", 1000000, 1000000}, {"1", 1000000, 1000000}, {"6", 7, 7},
	} {
		reads(t, number(c.least, c.most), c.text, open(len(c.text)))
		for _, b := range behind {
			reads(t, number(c.least, c.most), c.text+b, wrong(len(c.text)))
		}
	}
}

// P14.2: Number, of an empty rest: no digit has come.
func TestNumberEnd(t *testing.T) {
	for _, bounds := range [][2]int{{0, 0}, {0, 64}, {1, 1}, {1, 64}, {64, 64}, {0, 1000000}, {1000000, 1000000}} {
		reads(t, number(bounds[0], bounds[1]), "", open(0))
	}
}

// P14.2: Number, of every text of up to three digits, by all bounds up to a hundred or so, held against the texts of numbers.
func TestNumberAll(t *testing.T) {
	texts := allTexts([]string{"0", "1", "2", "6", "9"}, 3)
	for most := range 106 {
		for least := 0; least <= most; least++ {
			for _, text := range texts {
				for _, b := range []string{"", "x"} {
					if got, want := Number(text+b, 0, least, most), numeral(text+b, least, most); got != want {
						t.Fatalf("%q from %d to %d: %v, not %v", text+b, least, most, got, want)
					}
				}
			}
		}
	}
}

// numeral goes on, digit by digit, while what was read is the text of a number up to most, or nothing.
func numeral(text string, least, most int) api.Step {
	n, end := -1, 0
	for ; end < len(text) && strings.ContainsAny(text[end:end+1], "0123456789"); end++ {
		next, _ := strconv.Atoi(text[:end+1])
		if strconv.Itoa(next) != text[:end+1] || next > most || next == 0 && least > 0 {
			return wrong(end)
		}
		n = next
	}
	switch {
	case n >= least:
		return ends(end, n)
	case end == len(text):
		return open(end)
	}
	return wrong(end)
}

// P14.2: Number, by bounds that may not be, and at what is no place.
func TestNumberBounds(t *testing.T) {
	for _, bounds := range [][2]int{
		{-1, 64}, {-1, -1}, {-1, 0}, {-64, 64}, {-2, -1}, {math.MinInt, math.MaxInt}, {math.MinInt, 64}, {math.MinInt, math.MinInt}, {math.MinInt32, 64}, {-1 << 32, 64},
		{65, 64}, {1, 0}, {1, -1}, {0, -1}, {7, 6}, {math.MaxInt, 64}, {64, math.MinInt}, {0, math.MinInt}, {1 << 32, 64}, {1000001, 1000000}, {math.MaxInt, math.MinInt},
		{0, 1000001}, {1, 1000001}, {1000001, 1000001}, {0, 1 << 32}, {0, 1<<32 + 64}, {0, math.MaxInt32}, {0, math.MaxInt}, {math.MaxInt, math.MaxInt}, {1, 10000000}, {-1, 1000001},
	} {
		for _, text := range []string{"", "0", "5", "64\n", "x", "1000000"} {
			for _, at := range append(noPlaces(len(text)), 0, len(text)) {
				if got := Number(text, at, bounds[0], bounds[1]); got != barred() {
					t.Errorf("%q at %d from %d to %d: %v", text, at, bounds[0], bounds[1], got)
				}
			}
		}
	}
	for _, text := range []string{"", "5", "64\n", "♔"} {
		refuses(t, number(0, 64), text)
		refuses(t, number(64, 64), text)
	}
}

// P14.2: Square, each name, with more behind and with none.
func TestSquare(t *testing.T) {
	for s, name := range strings.Fields(names) {
		reads(t, Square, name, ends(2, s))
		for _, b := range append([]string{"1", "8", name}, behind...) {
			reads(t, Square, name+b, ends(2, s))
		}
	}
}

// P14.2: Square, where a byte is wrong, or the text ends within.
func TestSquareWrong(t *testing.T) {
	signs := []string{"", "\x00", "1", "8", "9", "0", "i", "`", "A", "H", "-", " ", "\n", "é", "♔", "а", "ａ", "１", "١", "\xff", "\x80", "\U00010061", "\U00010031", "š", "ı", "\ufffd"}
	for _, sign := range signs {
		if sign == "" {
			reads(t, Square, "", open(0))
			continue
		}
		reads(t, Square, sign, wrong(0))
		reads(t, Square, sign+"1", wrong(0))
		reads(t, Square, sign+"e4", wrong(0))
		reads(t, Square, sign+sign, wrong(0))
	}
	for _, file := range []string{"a", "b", "c", "d", "e", "f", "g", "h"} {
		reads(t, Square, file, open(1))
		for _, sign := range append(signs[4:], file, "a", "h") {
			reads(t, Square, file+sign, wrong(1))
			reads(t, Square, file+sign+"4", wrong(1))
		}
	}
}

// P14.2: Square, of every text of two bytes, held against the names.
func TestSquareAll(t *testing.T) {
	all := strings.Fields(names)
	for a := range 256 {
		for b := range 256 {
			text := string([]byte{byte(a), byte(b)})
			if got, want := Square(text, 0), read(text, 0, all); got != want {
				t.Fatalf("%q: %v, not %v", text, got, want)
			}
		}
	}
}

// P14.2: Square, at what is no place.
func TestSquarePlace(t *testing.T) {
	for _, text := range []string{"", "a", "a1", "xe4\n", "♔"} {
		refuses(t, Square, text)
	}
}

// P14.2: Line, whole, empty, and with more behind.
func TestLine(t *testing.T) {
	for _, want := range []string{"", "x", "ab", "begin", "stip #1", " ", "\r", "\x00", "é", "♔ ♔", "\xff", "\xc3", "\xe2\x99", "\u2028\u0085\v\f", strings.Repeat("long ", 300)} {
		for _, b := range append([]string{"", "\n\n"}, behind...) {
			text := want + "\n" + b
			reads(t, line, text, ends(len(want)+1, 0))
			for _, a := range ahead {
				if got, _ := Line(a+text, len(a)); got != want {
					t.Errorf("%q behind %q: %q", text, a, got)
				}
			}
		}
	}
}

// P14.2: Line, of a text that ends within: what is left of it is told.
func TestLineEnd(t *testing.T) {
	for _, want := range []string{"", "x", "ab", "begin", "\r", "é", "♔", "\xff", "\xc3", "\xe2\x99", "x\xff", strings.Repeat("long ", 300)} {
		reads(t, line, want, open(len(want)))
		for _, a := range ahead {
			if got, _ := Line(a+want, len(a)); got != want {
				t.Errorf("%q behind %q: %q", want, a, got)
			}
		}
	}
}

// P14.2: Line, line by line, from beginning to end, and from within lines.
func TestLines(t *testing.T) {
	text := "begin\nforsyth 8\n\n\nend\n♔\nlast"
	at := 0
	for n, want := range strings.Split(text, "\n") {
		got, step := Line(text, at)
		e := api.OK
		if n == 6 {
			e = api.ErrEnd
		}
		if got != want || step.E != e || step.N != 0 {
			t.Error(n, got, step)
		}
		at = step.At
	}
	if at != len(text) {
		t.Error("ends", at)
	}
	for at := range len(text) + 1 {
		want, _, whole := strings.Cut(text[at:], "\n")
		step := open(len(text))
		if whole {
			step = ends(at+len(want)+1, 0)
		}
		if got, end := Line(text, at); got != want || end != step {
			t.Errorf("at %d: %q %v", at, got, end)
		}
	}
	// A text that ends with a line feed has nothing behind it, and at its end no line that is ended.
	if got, step := Line("ab\n", 3); got != "" || step != open(3) {
		t.Error(got, step)
	}
	if got, step := Line("ab\n", 2); got != "" || step != ends(3, 0) {
		t.Error(got, step)
	}
}

// P14.2: Line, at what is no place.
func TestLinePlace(t *testing.T) {
	for _, text := range []string{"", "x", "ab\ncd", "\n", "♔"} {
		refuses(t, line, text)
		for _, at := range noPlaces(len(text)) {
			if got, _ := Line(text, at); got != "" {
				t.Errorf("%q at %d: %q", text, at, got)
			}
		}
	}
}

// P14.1, P14.2, R4: words aren't changed, spare room included, nor put in order; a line is new memory.
func TestHandedIn(t *testing.T) {
	all := []string{"b", "a", "d", "c", "spare", "room"}
	OneOf("c", 0, all[:4])
	OneOf("x", 0, all[:4])
	OneOf("c", 0, []string{})
	if !slices.Equal(all, []string{"b", "a", "d", "c", "spare", "room"}) {
		t.Error(all)
	}
	for _, text := range []string{"ab\ncd", "ab"} {
		first, _ := Line(text, 0)
		again, _ := Line(text, 0)
		if unsafe.StringData(first) == unsafe.StringData(text) || unsafe.StringData(first) == unsafe.StringData(again) {
			t.Error("shared", text)
		}
	}
}

// P14.1, P14.2, R5: what is answered doesn't hang on what was asked ahead.
func TestAgain(t *testing.T) {
	text := "cat 64 e4\nx"
	for range 3 {
		if got := OneOf(text, 0, []string{"cow", "cat"}); got != ends(3, 1) {
			t.Error(got)
		}
		if got := Word(text, 3, " "); got != ends(4, 0) {
			t.Error(got)
		}
		if got := Number(text, 4, 1, 64); got != ends(6, 64) {
			t.Error(got)
		}
		if got := Square(text, 7); got != ends(9, 28) {
			t.Error(got)
		}
		if got, step := Line(text, 9); got != "" || step != ends(10, 0) {
			t.Error(got, step)
		}
		OneOf(text, 0, nil)
		Number("65", 0, 1, 64)
	}
}
