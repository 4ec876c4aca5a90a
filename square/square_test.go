package square

import (
	"math"
	"strings"
	"testing"
)

// names are all names, in the order of the squares, written out so that no test leans on the program's own sums.
const names = "a1 b1 c1 d1 e1 f1 g1 h1 " +
	"a2 b2 c2 d2 e2 f2 g2 h2 " +
	"a3 b3 c3 d3 e3 f3 g3 h3 " +
	"a4 b4 c4 d4 e4 f4 g4 h4 " +
	"a5 b5 c5 d5 e5 f5 g5 h5 " +
	"a6 b6 c6 d6 e6 f6 g6 h6 " +
	"a7 b7 c7 d7 e7 f7 g7 h7 " +
	"a8 b8 c8 d8 e8 f8 g8 h8"

// noSquares are numbers that are none; some of them would be one if they were cut to fewer bits.
var noSquares = []int{-1, -2, -8, -63, -64, -65, 64, 65, 72, 127, 128, 255, 256, 1 << 16, math.MinInt32, math.MaxInt32, math.MinInt + 1, math.MinInt, math.MaxInt - 1, math.MaxInt}

// offEdge are numbers that are neither a file nor a rank.
var offEdge = []int{-1, -2, -7, -8, -9, -64, 8, 9, 15, 16, 63, 64, 256, math.MinInt32, math.MaxInt32, math.MinInt + 7, math.MinInt, math.MaxInt - 7, math.MaxInt}

func within(n int) bool { return n >= 0 && n <= 7 }

// P1.1: Right, File, Rank, Name, Parse and At, on each square.
func TestEachSquare(t *testing.T) {
	s := 0
	for _, name := range strings.Fields(names) {
		file, rank := strings.Index("abcdefgh", name[:1]), strings.Index("12345678", name[1:])
		if !Right(s) {
			t.Error("Right", s)
		}
		if File(s) != file || Rank(s) != rank {
			t.Error("File, Rank", s, File(s), Rank(s))
		}
		if Name(s) != name {
			t.Error("Name", s, Name(s))
		}
		if x, is := Parse(name); x != s || !is {
			t.Error("Parse", name, x, is)
		}
		if x, is := At(file, rank); x != s || !is {
			t.Error("At", file, rank, x, is)
		}
		s++
	}
	if s != 64 {
		t.Error("squares", s)
	}
}

// P1.1: what is no square.
func TestNoSquare(t *testing.T) {
	for _, s := range noSquares {
		if Right(s) {
			t.Error("Right", s)
		}
		if File(s) != -1 || Rank(s) != -1 {
			t.Error("File, Rank", s, File(s), Rank(s))
		}
		if Name(s) != "-" {
			t.Error("Name", s, Name(s))
		}
	}
}

// P1.1: At, beyond the board.
func TestAtBeyond(t *testing.T) {
	check := func(file, rank int) {
		if s, is := At(file, rank); s != 0 || is {
			t.Error("At", file, rank, s, is)
		}
	}
	for _, far := range offEdge {
		for near := range 8 {
			check(far, near)
			check(near, far)
		}
		for _, other := range offEdge {
			check(far, other)
		}
	}
}

// P1.1: Parse, of texts that are no name.
func TestParseNoName(t *testing.T) {
	wrong := []string{
		"", "-", "a", "h", "1", "8", " ", "\x00",
		"a0", "a9", "i1", "`1", "h0", "h9", "i8", "a:", "a/", "11", "aa", "1a", "--", "a-", "-1", "a ", " 1", "  ", "a\x00", "\x001", "a\n",
		"A1", "H8", "E4", "E5",
		"a1 ", " a1", "a11", "a1\n", "\na1", "aa1", "a1a1", "a1-", "e4e5", "a1\x00", "\x00a1", "a10", "a01", "+a1", strings.Repeat("a1", 5000),
		"é1", "aé", "é", "а1", "а", "ａ１", "ａ1", "a１", "a¹", "a١", "á1", "a\u03011", "a1\u0301", "\ufeffa1", "a1\ufeff", "♔1", "a♔", "♔", "😀", "😀1", "a😀", "š1", "aı", "\u01611", "a\u0131", "a\U00010031", "\U000100611",
		"\xff", "\xff1", "a\xff", "\xe1\xb1", "\x61\xb1", "\xe1\x31", "a1\xff", "\xffa1", "\xc3", "a\xc3", "a\xc3\xa9", "\x80\x80", "\xc1\xa11", "a\xc0\xb1", "\ufffd1", "a\ufffd",
	}
	for _, text := range wrong {
		if s, is := Parse(text); s != 0 || is {
			t.Errorf("Parse %q %d %v", text, s, is)
		}
	}
}

// P1.1: Parse, of every text of one byte or two.
func TestParseShortTexts(t *testing.T) {
	known := map[string]int{}
	for s, name := range strings.Fields(names) {
		known[name] = s
	}
	check := func(text string) {
		want, ok := known[text]
		if s, is := Parse(text); s != want || is != ok {
			t.Errorf("Parse %q %d %v", text, s, is)
		}
	}
	for a := range 256 {
		check(string([]byte{byte(a)}))
		for b := range 256 {
			check(string([]byte{byte(a), byte(b)}))
		}
	}
}

// P1.2: Step, from each square by each step that stays within reach of the board, and just beyond.
func TestStepNear(t *testing.T) {
	for s := range 64 {
		for files := -17; files <= 17; files++ {
			for ranks := -17; ranks <= 17; ranks++ {
				want, ok := 0, within(s%8+files) && within(s/8+ranks)
				if ok {
					want = s + files + 8*ranks
				}
				if to, is := Step(s, files, ranks); to != want || is != ok {
					t.Error("Step", s, files, ranks, to, is)
				}
			}
		}
	}
}

// P1.2: Step, told by names.
func TestStepNamed(t *testing.T) {
	for _, c := range []struct {
		from         string
		files, ranks int
		to           string
	}{
		{"e4", 1, 2, "f6"}, {"e4", 0, 0, "e4"}, {"e4", -2, -1, "c3"}, {"e2", 0, 2, "e4"},
		{"a1", 7, 7, "h8"}, {"h8", -7, -7, "a1"}, {"a8", 7, -7, "h1"}, {"h1", -7, 7, "a8"}, {"a1", 0, 0, "a1"}, {"h8", 0, 0, "h8"},
		{"a1", -1, 0, ""}, {"a1", 0, -1, ""}, {"a1", 8, 0, ""}, {"a1", 0, 8, ""}, {"a1", -1, 1, ""},
		{"h1", 1, 0, ""}, {"h1", 1, 1, ""}, {"h1", 0, -1, ""}, {"h1", -8, 1, ""},
		{"a8", -1, 0, ""}, {"a8", 0, 1, ""}, {"h8", 1, 0, ""}, {"h8", 0, 1, ""}, {"h8", 1, -1, ""}, {"h8", -8, 0, ""}, {"h8", 0, -8, ""},
	} {
		s, _ := Parse(c.from)
		want, ok := Parse(c.to)
		if to, is := Step(s, c.files, c.ranks); to != want || is != ok {
			t.Error("Step", c, to, is)
		}
	}
}

// P1.2: Step, from what is no square, and by steps that are as far as numbers go.
func TestStepWrong(t *testing.T) {
	check := func(s, files, ranks int) {
		if to, is := Step(s, files, ranks); to != 0 || is {
			t.Error("Step", s, files, ranks, to, is)
		}
	}
	for _, s := range noSquares {
		for _, n := range []int{-64, -8, -1, 0, 1, 8, 64, -s, math.MinInt, math.MaxInt} {
			check(s, n, 0)
			check(s, 0, n)
			check(s, n, n)
			check(s, 1, n)
			check(s, n, 1)
		}
	}
	ends := []int{math.MinInt, math.MinInt + 1, math.MinInt + 7, math.MinInt + 8, math.MaxInt - 8, math.MaxInt - 7, math.MaxInt - 1, math.MaxInt, math.MinInt32, math.MaxInt32, 1 << 32, -1 << 32, 1 << 61, -1 << 61}
	for s := range 64 {
		for _, n := range ends {
			check(s, n, 0)
			check(s, 0, n)
			for _, other := range ends {
				check(s, n, other)
			}
		}
	}
}

// P1.2: Far, of each two squares: how many steps of a king lead from one to the other.
func TestFar(t *testing.T) {
	for a := range 64 {
		far := kingSteps(a)
		for b := range 64 {
			if Far(a, b) != far[b] || Far(b, a) != far[b] {
				t.Error("Far", a, b, Far(a, b), Far(b, a))
			}
		}
	}
	for _, c := range [][3]int{{0, 0, 0}, {63, 63, 0}, {0, 63, 7}, {7, 56, 7}, {28, 30, 2}, {28, 45, 2}, {7, 8, 7}, {0, 7, 7}, {0, 56, 7}, {0, 1, 1}} {
		if Far(c[0], c[1]) != c[2] {
			t.Error("Far", c, Far(c[0], c[1]))
		}
	}
}

// kingSteps goes out from a square, a ring at a time, over the files and ranks that are next to each other.
func kingSteps(from int) [64]int {
	var far [64]int
	for s := range far {
		far[s] = -1
	}
	far[from] = 0
	for todo := []int{from}; len(todo) > 0; todo = todo[1:] {
		s := todo[0]
		for _, f := range []int{-1, 0, 1} {
			for _, r := range []int{-1, 0, 1} {
				if to := s + f + 8*r; within(s%8+f) && within(s/8+r) && far[to] < 0 {
					far[to] = far[s] + 1
					todo = append(todo, to)
				}
			}
		}
	}
	return far
}

// P1.2: Far, of what is no square.
func TestFarWrong(t *testing.T) {
	for _, x := range noSquares {
		for s := range 64 {
			if Far(x, s) != -1 || Far(s, x) != -1 {
				t.Error("Far", x, s, Far(x, s), Far(s, x))
			}
		}
		for _, y := range noSquares {
			if Far(x, y) != -1 {
				t.Error("Far", x, y, Far(x, y))
			}
		}
	}
}

// P1.2: Dark, held against a picture of the board.
func TestDark(t *testing.T) {
	const picture = "#.#.#.#." + ".#.#.#.#" + "#.#.#.#." + ".#.#.#.#" + "#.#.#.#." + ".#.#.#.#" + "#.#.#.#." + ".#.#.#.#"
	for s := range 64 {
		if Dark(s) != (picture[s] == '#') {
			t.Error("Dark", s, Dark(s))
		}
	}
	for _, s := range noSquares {
		if Dark(s) {
			t.Error("Dark", s)
		}
	}
}

// P1.2: Flip, of each square, and of what is none.
func TestFlip(t *testing.T) {
	all := strings.Fields(names)
	for s, name := range all {
		want := name[:1] + string("87654321"[strings.Index("12345678", name[1:])])
		if to := Flip(s); to < 0 || to > 63 || all[to] != want {
			t.Error("Flip", s, to)
		} else if Flip(to) != s {
			t.Error("Flip twice", s, Flip(to))
		}
	}
	for _, s := range noSquares {
		if Flip(s) != -1 {
			t.Error("Flip", s, Flip(s))
		}
	}
}
