package attack

import (
	"math"
	"slices"
	"strings"
	"testing"

	"alfil/api"
	"alfil/board"
	"alfil/forsyth"
)

// noSquares are numbers that are none; some of them would be one if they were cut to fewer bits.
var noSquares = []int{-1, -2, -8, -63, -64, -65, 64, 65, 72, 127, 128, 255, 256, 1 << 16, 1 << 32, 1<<32 + 28, math.MinInt32, math.MaxInt32, math.MinInt + 1, math.MinInt, math.MaxInt - 1, math.MaxInt}

// noSides are numbers that are none; some of them would be one if they were cut to fewer bits.
var noSides = []int{-1, -2, 2, 3, 4, 7, -128, 128, 255, 256, 257, 1 << 16, 1 << 32, 1<<32 + 1, math.MinInt32, math.MaxInt32, math.MinInt + 1, math.MinInt, math.MaxInt - 1, math.MaxInt}

// noMen are numbers of a board that are neither a man nor nothing.
var noMen = []int8{7, -7, 8, -8, 64, -64, 127, -127, -128}

// allMen are those of both sides.
var allMen = []int8{1, 2, 3, 4, 5, 6, -1, -2, -3, -4, -5, -6}

// texts are boards with few men and with many, in each other's way, pinned and struck.
var texts = []string{
	"8/8/8/8/8/8/8/8",
	"rnbqkbnr/pppppppp/8/8/8/8/PPPPPPPP/RNBQKBNR",
	"4k3/8/8/8/8/8/8/4K3",
	"4k3/4r3/8/8/1b6/4N3/3P4/4K2R",
	"4k3/3P4/8/8/8/8/8/4K3",
	"r3k2r/p1ppqpb1/bn2pnp1/3PN3/1p2P3/2N2Q1p/PPPBBPPP/R3K2R",
	"8/2p5/3p4/KP5r/1R3p1k/8/4P1P1/8",
	"r3k2r/Pppp1ppp/1b3nbN/nP6/BBP1P3/q4N2/Pp1P2PP/R2Q1RK1",
	"qqqqqqqq/QQQQQQQQ/rrrrrrrr/RRRRRRRR/bbbbbbbb/BBBBBBBB/nnnnnnnn/NNNNNNNN",
	"PPPPPPPP/pppppppp/8/KKKKKKKK/kkkkkkkk/8/PPPPPPPP/pppppppp",
	"R6r/8/2q3B1/8/3K4/8/1b4N1/k6Q",
	"3q3b/1b1R1P2/2N1P3/q2NKP1r/3PRP2/2Q3B1/1q2r3/k6b",
	"K7/8/8/K2P2r1/8/8/8/3b3k",
	"7k/8/1N6/8/8/8/8/8",
}

// place is the number of a square's name, found by its signs' places.
func place(name string) int {
	return strings.IndexByte("12345678", name[1])*8 + strings.IndexByte("abcdefgh", name[0])
}

// places are the squares of names between blanks, rising.
func places(names string) []int {
	var out []int
	for _, name := range strings.Fields(names) {
		out = append(out, place(name))
	}
	slices.Sort(out)
	return out
}

// on is the board of a Forsyth text.
func on(t *testing.T, text string) api.Board {
	t.Helper()
	b, _, e := forsyth.Read(text)
	if e != api.OK {
		t.Fatal(text, e)
	}
	return b
}

// boards are those of the texts, turned about as well, and some that a plain row of numbers makes, from nearly empty ones to full ones.
func boards(t *testing.T) []api.Board {
	t.Helper()
	var out []api.Board
	for _, text := range texts {
		b := on(t, text)
		out = append(out, b, board.Turned(b))
	}
	n := uint32(1)
	next := func(below int) int {
		n = n*1664525 + 1013904223
		return int(n>>8) % below
	}
	for many := 2; many <= 64; many++ {
		for range 4 {
			var b api.Board
			for range many {
				b[next(64)] = allMen[next(len(allMen))]
			}
			out = append(out, b)
		}
	}
	// With one king a side there are more pins, as no other king stands first.
	for range 200 {
		var b api.Board
		for range 14 {
			m := allMen[next(len(allMen))]
			if m != 6 && m != -6 {
				b[next(64)] = m
			}
		}
		b[next(32)], b[32+next(32)] = 6, -6
		out = append(out, b)
	}
	return out
}

func abs(n int) int { return max(n, -n) }

func sign(n int) int {
	switch {
	case n > 0:
		return 1
	case n < 0:
		return -1
	}
	return 0
}

// ahead is how many ranks up a pawn goes; any number of its sign will do.
func ahead(m int8) int { return sign(int(m)) }

// slidesSo tells whether a man goes on and on by a step of a queen.
func slidesSo(m int8, files, ranks int) bool {
	straight := files == 0 || ranks == 0
	return m == 5 || m == -5 || straight && (m == 4 || m == -4) || !straight && (m == 3 || m == -3)
}

// emptyBetween tells whether all squares between two of one queen's ray are empty.
func emptyBetween(b api.Board, from, to int) bool {
	files, ranks := to%8-from%8, to/8-from/8
	for n := 1; n < max(abs(files), abs(ranks)); n++ {
		if b[from+n*(sign(files)+8*sign(ranks))] != 0 {
			return false
		}
	}
	return true
}

// hits tells whether a man strikes a square, by how many files and ranks are between them, instead of going along rays.
func hits(b api.Board, from, to int) bool {
	m := b[from]
	files, ranks := to%8-from%8, to/8-from/8
	if files == 0 && ranks == 0 {
		return false
	}
	switch abs(int(m)) {
	case 1:
		return ranks == ahead(m) && abs(files) == 1
	case 2:
		return abs(files)*abs(ranks) == 2
	case 6:
		return abs(files) <= 1 && abs(ranks) <= 1
	}
	aligned := files == 0 || ranks == 0 || abs(files) == abs(ranks)
	return aligned && slidesSo(m, files, ranks) && emptyBetween(b, from, to)
}

// ofSide tells whether a man is a side's.
func ofSide(m int8, side int) bool { return side == 0 && m > 0 || side == 1 && m < 0 }

// struckBy is the squares of the side's men that hit s.
func struckBy(b api.Board, s, side int) []int {
	var out []int
	for from, m := range b {
		if ofSide(m, side) && hits(b, from, s) {
			out = append(out, from)
		}
	}
	return out
}

// firstFrom is the first square from s on, by a step, on which somebody stands; -1, if there is none.
func firstFrom(b api.Board, s, files, ranks int) int {
	for n := 1; ; n++ {
		file, rank := s%8+n*files, s/8+n*ranks
		if file < 0 || file > 7 || rank < 0 || rank > 7 {
			return -1
		}
		if to := rank*8 + file; b[to] != 0 {
			return to
		}
	}
}

// pinnedOn is what the chapter says of a pinned man, word by word: from its own square to both sides.
func pinnedOn(b api.Board, s int) []int {
	m := b[s]
	king := slices.Index(b[:], 6*int8(sign(int(m))))
	if m == 0 || m == 6 || m == -6 || king < 0 {
		return nil
	}
	for files := -1; files <= 1; files++ {
		for ranks := -1; ranks <= 1; ranks++ {
			if files == 0 && ranks == 0 || firstFrom(b, s, files, ranks) != king {
				continue
			}
			from := firstFrom(b, s, -files, -ranks)
			if from < 0 || sign(int(b[from])) == sign(int(m)) || !slidesSo(b[from], files, ranks) {
				continue
			}
			var out []int
			for to := from; to != king; to += files + 8*ranks {
				out = append(out, to)
			}
			slices.Sort(out)
			return out
		}
	}
	return nil
}

// P7.1: Strikes, told by names: each kind, of either side, with nobody in its way.
func TestStrikesAlone(t *testing.T) {
	e := New()
	for _, c := range []struct {
		men  []int8
		from string
		want string
	}{
		{[]int8{4, -4}, "a1", "a2 a3 a4 a5 a6 a7 a8 b1 c1 d1 e1 f1 g1 h1"},
		{[]int8{4, -4}, "d4", "d1 d2 d3 d5 d6 d7 d8 a4 b4 c4 e4 f4 g4 h4"},
		{[]int8{3, -3}, "d4", "a1 b2 c3 e5 f6 g7 h8 a7 b6 c5 e3 f2 g1"},
		{[]int8{3, -3}, "h1", "g2 f3 e4 d5 c6 b7 a8"},
		{[]int8{5, -5}, "b2", "a1 c3 d4 e5 f6 g7 h8 a3 c1 a2 c2 d2 e2 f2 g2 h2 b1 b3 b4 b5 b6 b7 b8"},
		{[]int8{2, -2}, "d4", "e6 f5 f3 e2 c2 b3 b5 c6"},
		{[]int8{2, -2}, "h8", "g6 f7"},
		{[]int8{6, -6}, "d4", "c3 c4 c5 d3 d5 e3 e4 e5"},
		{[]int8{6, -6}, "a8", "a7 b7 b8"},
		{[]int8{1}, "e4", "d5 f5"}, {[]int8{1}, "a2", "b3"}, {[]int8{1}, "h7", "g8"}, {[]int8{1}, "e8", ""}, {[]int8{1}, "e1", "d2 f2"},
		{[]int8{-1}, "e4", "d3 f3"}, {[]int8{-1}, "a7", "b6"}, {[]int8{-1}, "h2", "g1"}, {[]int8{-1}, "e1", ""}, {[]int8{-1}, "e8", "d7 f7"},
	} {
		for _, m := range c.men {
			var b api.Board
			b[place(c.from)] = m
			if l := e.Strikes(b, place(c.from)); !slices.Equal(l, places(c.want)) {
				t.Error("Strikes", m, c.from, l)
			}
		}
	}
}

// P7.1: Strikes, told by names, with men in the way: the first one on a ray is struck, of whichever side, those behind it aren't; nobody is in a knight's way.
func TestStrikesNamed(t *testing.T) {
	e := New()
	for _, c := range [][3]string{
		{texts[1], "a1", "a2 b1"}, {texts[1], "b1", "a3 c3 d2"}, {texts[1], "d8", "c7 c8 d7 e7 e8"}, {texts[1], "e2", "d3 f3"}, {texts[1], "e7", "d6 f6"},
		{texts[1], "e1", "d1 d2 e2 f1 f2"}, {texts[1], "c8", "b7 d7"},
		{texts[3], "b4", "d2 c3 a3 a5 c5 d6 e7"}, {texts[3], "e7", "e8 e6 e5 e4 e3 d7 c7 b7 a7 f7 g7 h7"}, {texts[3], "h1", "e1 f1 g1 h2 h3 h4 h5 h6 h7 h8"},
		{texts[3], "e3", "c2 c4 d1 d5 f1 f5 g2 g4"}, {texts[3], "d2", "c3 e3"},
		{"8/8/1p3P2/8/3Q2p1/2P5/3p4/8", "d4", "d5 d6 d7 d8 e4 f4 g4 d3 d2 c4 b4 a4 e5 f6 e3 f2 g1 c3 c5 b6"},
		{"8/8/1P3p2/8/3q2P1/2p5/3P4/8", "d4", "d5 d6 d7 d8 e4 f4 g4 d3 d2 c4 b4 a4 e5 f6 e3 f2 g1 c3 c5 b6"},
		{"8/8/8/4Np2/2PNPp2/2Ppb3/8/8", "d4", "b3 b5 c2 c6 e2 e6 f3 f5"},
		{"8/8/8/3PpP2/3PKr2/3b1q2/8/8", "e4", "d3 d4 d5 e3 e5 f3 f4 f5"},
		{"8/8/8/2pPb3/3P4/8/8/8", "d4", "c5 e5"},
		{"8/8/8/2PpB3/3p4/8/8/8", "d4", "c3 e3"},
	} {
		if l := e.Strikes(on(t, c[0]), place(c[1])); !slices.Equal(l, places(c[2])) {
			t.Error("Strikes", c, l)
		}
	}
}

// P7.1: Strikes, of each man on each square, on each board.
func TestStrikesEach(t *testing.T) {
	e := New()
	check := func(b api.Board, s int) {
		var want []int
		for to := range b {
			if hits(b, s, to) {
				want = append(want, to)
			}
		}
		if l := e.Strikes(b, s); !slices.Equal(l, want) {
			t.Error("Strikes", b, s, l)
		}
	}
	for _, b := range boards(t) {
		for s := range b {
			check(b, s)
		}
	}
	b := on(t, texts[5])
	for _, m := range allMen {
		for s := range b {
			var alone api.Board
			alone[s] = m
			check(alone, s)
			among := b
			among[s] = m
			check(among, s)
		}
	}
}

// P7.1: By and Struck, told by names: an empty square, a man of the other side, and one of one's own; a man in the way; two that strike in a row.
func TestByNamed(t *testing.T) {
	e := New()
	for _, c := range []struct {
		text, s string
		side    int
		want    string
	}{
		{texts[3], "e3", 1, "e7"}, {texts[3], "e3", 0, "d2"}, {texts[3], "d2", 1, "b4"}, {texts[3], "a1", 1, ""}, {texts[3], "e1", 0, "h1"}, {texts[3], "e1", 1, ""},
		{texts[3], "e7", 1, "b4 e8"}, {texts[3], "e2", 0, "e1"}, {texts[3], "f1", 0, "e1 e3 h1"}, {texts[3], "e8", 1, "e7"}, {texts[3], "d8", 1, "e8"},
		{texts[1], "f3", 0, "e2 g1 g2"}, {texts[1], "f6", 1, "e7 g7 g8"}, {texts[1], "d2", 0, "b1 c1 d1 e1"}, {texts[1], "f3", 1, ""}, {texts[1], "a1", 0, ""}, {texts[1], "a8", 1, ""}, {texts[1], "e4", 0, ""},
		{"8/8/8/3r4/3q4/8/8/3R4", "d1", 1, "d4"}, {"8/8/8/3r4/3q4/8/8/3R4", "d4", 1, "d5"}, {"8/8/8/3r4/3q4/8/8/3R4", "d4", 0, "d1"}, {"8/8/8/3r4/3q4/8/8/3R4", "d5", 0, ""},
		{"8/8/8/4p3/8/8/8/8", "d4", 1, "e5"}, {"8/8/8/4p3/8/8/8/8", "d6", 1, ""}, {"8/8/8/4p3/8/8/8/8", "e4", 1, ""}, {"8/8/8/4P3/8/8/8/8", "d6", 0, "e5"}, {"8/8/8/4P3/8/8/8/8", "d4", 0, ""},
		{"7P/8/8/8/8/8/8/p7", "a1", 0, ""}, {"8/7P/8/8/8/8/p7/8", "g8", 0, "h7"}, {"8/7P/8/8/8/8/p7/8", "b1", 1, "a2"}, {"8/7P/8/8/8/8/p7/8", "a8", 0, ""}, {"8/7P/8/8/8/8/p7/8", "h1", 1, ""},
		{"r2R3b/8/8/b2N4/3K4/1n6/8/q5Qr", "d4", 1, "a1 b3 h8"}, {"r2R3b/8/8/b2N4/3K4/1n6/8/q5Qr", "d4", 0, "g1"}, {"r2R3b/8/8/b2N4/3K4/1n6/8/q5Qr", "d5", 0, "d4 d8"}, {"r2R3b/8/8/b2N4/3K4/1n6/8/q5Qr", "a1", 1, "b3"},
	} {
		b := on(t, c.text)
		want := places(c.want)
		if l := e.By(b, place(c.s), c.side); !slices.Equal(l, want) {
			t.Error("By", c, l)
		}
		if e.Struck(b, place(c.s), c.side) != (len(want) > 0) {
			t.Error("Struck", c)
		}
	}
}

// P7.1: By and Struck, of each square and either side, on each board.
func TestByEach(t *testing.T) {
	e := New()
	for _, b := range boards(t) {
		for s := range b {
			for side := range 2 {
				want := struckBy(b, s, side)
				if l := e.By(b, s, side); !slices.Equal(l, want) {
					t.Error("By", b, s, side, l)
				}
				if e.Struck(b, s, side) != (len(want) > 0) {
					t.Error("Struck", b, s, side)
				}
			}
		}
	}
}

// nothing tells by an error what an Eye says of a square, or of a board, of which it should say nothing.
func nothing(t *testing.T, e *Eye, b api.Board, s, side int) {
	t.Helper()
	if l := e.Strikes(b, s); len(l) != 0 {
		t.Error("Strikes", b, s, l)
	}
	if l := e.Pinned(b, s); len(l) != 0 {
		t.Error("Pinned", b, s, l)
	}
	struckByNone(t, e, b, s, side)
}

func struckByNone(t *testing.T, e *Eye, b api.Board, s, side int) {
	t.Helper()
	if l := e.By(b, s, side); len(l) != 0 {
		t.Error("By", b, s, side, l)
	}
	if e.Struck(b, s, side) {
		t.Error("Struck", b, s, side)
	}
}

// P7.1, P7.2: of what is no square there is nothing.
func TestNoSquare(t *testing.T) {
	e := New()
	for _, b := range boards(t)[:2*len(texts)] {
		for _, s := range noSquares {
			nothing(t, e, b, s, 0)
			nothing(t, e, b, s, 1)
			for _, side := range noSides {
				nothing(t, e, b, s, side)
			}
		}
	}
}

// P7.1, P7.2: an empty square's man strikes nothing, and isn't pinned, though it may itself be struck.
func TestEmptySquare(t *testing.T) {
	e := New()
	for _, b := range boards(t) {
		for s, m := range b {
			if m != 0 {
				continue
			}
			if l := e.Strikes(b, s); len(l) != 0 {
				t.Error("Strikes", b, s, l)
			}
			if l := e.Pinned(b, s); len(l) != 0 {
				t.Error("Pinned", b, s, l)
			}
		}
	}
	b := on(t, "4k3/4r3/8/8/8/8/8/4K3")
	if l := e.By(b, place("e4"), 1); !slices.Equal(l, places("e7")) || !e.Struck(b, place("e4"), 1) || len(e.Pinned(b, place("e4"))) != 0 {
		t.Error("an empty square", l)
	}
}

// P7.1, P7.2: of what is no side there is nothing; an empty square's side is none, too.
func TestNoSide(t *testing.T) {
	e := New()
	for _, b := range boards(t) {
		for _, side := range noSides {
			for _, s := range []int{0, 4, 20, 28, 35, 60, 63} {
				struckByNone(t, e, b, s, side)
			}
			if e.Check(b, side) {
				t.Error("Check", b, side)
			}
		}
	}
}

// P7.1, P7.2: of boards that may be none there is nothing, wherever the number stands that is no man's: far from what is asked, on the way to it, or on the square itself.
func TestNoBoard(t *testing.T) {
	e := New()
	right := on(t, "4k3/4r3/8/8/1b5b/4N3/3P4/r3K2R")
	if !e.Check(right, 0) || len(e.Pinned(right, place("e3"))) != 6 || len(e.By(right, place("a2"), 1)) != 1 || len(e.Strikes(right, place("e7"))) == 0 {
		t.Error("a right board")
	}
	for at := range right {
		for _, m := range noMen {
			b := right
			b[at] = m
			for s := range b {
				nothing(t, e, b, s, 0)
				nothing(t, e, b, s, 1)
			}
			nothing(t, e, b, -1, -1)
			if e.Check(b, 0) || e.Check(b, 1) || e.Check(b, 2) {
				t.Error("Check", at, m)
			}
		}
	}
}

// P7.2: Check, told by hand: by each kind of man; not where something stands between, nor by one's own men; a side without a king isn't; of several kings the first one counts.
func TestCheckNamed(t *testing.T) {
	e := New()
	for _, c := range []struct {
		text         string
		white, black bool
	}{
		{texts[0], false, false}, {texts[1], false, false}, {texts[2], false, false}, {texts[3], false, false}, {texts[4], false, true},
		{"4k3/8/8/8/8/8/3p4/4K3", true, false}, {"4k3/8/8/8/8/8/5p2/4K3", true, false}, {"4k3/8/8/8/8/8/4p3/4K3", false, false}, {"4k3/8/8/8/8/3p4/8/4K3", false, false},
		{"4k3/5P2/8/8/8/8/8/4K3", false, true}, {"4k3/4P3/8/8/8/8/8/4K3", false, false}, {"4k3/8/3P4/8/8/8/8/4K3", false, false}, {"8/8/3pkp2/3PKP2/8/8/8/8", true, true}, {"8/8/3PKP2/3pkp2/8/8/8/8", true, true}, {"7k/8/3K4/2p1p3/8/8/8/8", false, false}, {"K7/8/2P1P3/3k4/8/8/8/8", false, false},
		{"4k3/8/8/8/8/3n4/8/4K3", true, false}, {"4k3/2N5/8/8/8/8/8/4K3", false, true}, {"4k3/8/8/8/8/4n3/8/4K3", false, false},
		{"4k3/8/8/8/7b/8/8/4K3", true, false}, {"4k3/8/8/8/7b/8/5P2/4K3", false, false}, {"4k3/8/8/8/7b/8/5p2/4K3", true, false}, {"4k3/8/8/1B6/8/8/8/4K3", false, true}, {"4k3/8/2n5/1B6/8/8/8/4K3", false, false}, {"4k3/8/8/8/8/4b3/8/4K3", false, false},
		{"4k3/8/8/8/8/8/8/r3K3", true, false}, {"4k3/8/8/8/8/8/8/r1N1K3", false, false}, {"4k2R/8/8/8/8/8/8/4K3", false, true}, {"4k3/8/8/4R3/8/8/8/4K3", false, true}, {"4k3/4p3/8/4R3/8/8/8/4K3", false, false}, {"4k3/8/8/8/8/8/8/R3K2R", false, false},
		{"4k3/8/8/8/7q/8/8/4K3", true, false}, {"4k3/8/8/8/8/8/8/4K2q", true, false}, {"4k3/4Q3/8/8/8/8/8/4K3", false, true}, {"4k3/8/8/8/6q1/8/8/4K3", false, false},
		{"8/8/8/3kK3/8/8/8/8", true, true}, {"8/8/8/3k4/4K3/8/8/8", true, true}, {"8/8/8/3k1K2/8/8/8/8", false, false},
		{"8/8/8/8/8/8/8/r2rr3", false, false}, {"4k3/8/8/8/4R3/8/8/8", false, true}, {"8/8/8/8/4r3/8/8/4K3", true, false},
		{"4K2r/8/8/8/8/8/8/4K3", false, false}, {"4K3/8/8/8/8/8/8/r3K3", true, false}, {"4k3/8/8/8/8/8/8/R3k3", false, true}, {"R3k3/8/8/8/8/8/8/4k3", false, false},
	} {
		b := on(t, c.text)
		if w, k := e.Check(b, 0), e.Check(b, 1); w != c.white || k != c.black {
			t.Error("Check", c.text, w, k)
		}
	}
}

// P7.2: Check, of either side, on each board.
func TestCheckEach(t *testing.T) {
	e := New()
	for _, b := range boards(t) {
		for side, king := range []int8{6, -6} {
			at := slices.Index(b[:], king)
			want := at >= 0 && len(struckBy(b, at, 1-side)) > 0
			if e.Check(b, side) != want {
				t.Error("Check", b, side, want)
			}
		}
	}
}

// P7.2: Pinned, told by names: along a rank, a file and a slant, to all sides, each kind of man by each that slides; not where something stands between, where the first man behind is of its own side or slides another way, or where there is no king; never a king.
func TestPinnedNamed(t *testing.T) {
	e := New()
	for _, c := range [][3]string{
		{texts[3], "e3", "e2 e3 e4 e5 e6 e7"}, {texts[3], "d2", "b4 c3 d2"}, {texts[3], "e7", ""}, {texts[3], "e1", ""}, {texts[3], "e8", ""}, {texts[3], "h1", ""}, {texts[3], "b4", ""},
		{"8/8/8/r2PK3/8/8/8/8", "d5", "a5 b5 c5 d5"}, {"8/8/8/4KP1q/8/8/8/8", "f5", "f5 g5 h5"}, {"4r3/8/4N3/4K3/8/8/8/8", "e6", "e6 e7 e8"}, {"8/8/8/4K3/8/4Q3/8/4q3", "e3", "e1 e2 e3 e4"},
		{"7q/6R1/8/4K3/8/8/8/8", "g7", "f6 g7 h8"}, {"1b6/8/3B4/4K3/8/8/8/8", "d6", "b8 c7 d6"}, {"8/8/8/4K3/8/2P5/8/b7", "c3", "a1 b2 c3 d4"}, {"8/8/8/4K3/5R2/8/7q/8", "f4", "f4 g3 h2"},
		{"8/8/8/R2pk3/8/8/8/8", "d5", "a5 b5 c5 d5"}, {"8/8/8/4kp1Q/8/8/8/8", "f5", "f5 g5 h5"}, {"7B/6r1/8/4k3/8/8/8/8", "g7", "f6 g7 h8"}, {"8/8/8/4k3/8/4n3/8/4R3", "e3", "e1 e2 e3 e4"},
		{"8/8/8/4KPr1/8/8/8/8", "f5", "f5 g5"}, {"KRr5/8/8/8/8/8/8/8", "b8", "b8 c8"}, {"k6B/8/8/8/8/8/8/b6K", "h8", ""}, {"K7/1N6/8/8/8/8/8/7q", "b7", "b7 c6 d5 e4 f3 g2 h1"}, {"7k/8/8/8/8/8/1q6/B7", "b2", "a1 b2 c3 d4 e5 f6 g7"}, {"7k/6q1/8/8/8/8/8/B7", "g7", "a1 b2 c3 d4 e5 f6 g7"},
		{"8/8/8/r1PPK3/8/8/8/8", "d5", ""}, {"8/8/8/r1PPK3/8/8/8/8", "c5", ""}, {"8/8/8/r1nPK3/8/8/8/8", "d5", ""}, {"8/8/8/r2pK3/8/8/8/8", "d5", ""}, {"8/8/8/r1P1Kr2/8/8/8/8", "c5", "a5 b5 c5 d5"},
		{"8/8/8/R2PK3/8/8/8/8", "d5", ""}, {"8/8/8/b2PK3/8/8/8/8", "d5", ""}, {"8/8/8/n1kPK3/8/8/8/8", "d5", ""}, {"8/8/8/2nPK3/8/8/8/8", "d5", ""},
		{"1r6/8/3B4/4K3/8/8/8/8", "d6", ""}, {"8/2p5/3B4/4K3/8/8/8/8", "d6", ""}, {"8/2k5/3B4/4K3/8/8/8/8", "d6", ""}, {"8/2n5/3B4/4K3/8/8/8/8", "d6", ""}, {"1B6/8/3B4/4K3/8/8/8/8", "d6", ""}, {"8/2q5/3B4/4K3/8/8/8/8", "d6", "c7 d6"},
		{"8/8/8/r2P4/8/8/8/8", "d5", ""}, {"8/8/8/r2Pk3/8/8/8/8", "d5", ""}, {"8/8/8/3PK3/8/8/8/8", "d5", ""}, {"8/3P4/8/4K3/8/8/8/r7", "d7", ""}, {"8/8/2N5/4K3/6r1/8/8/8", "c6", ""},
		{"8/8/8/r2KK3/8/8/8/8", "d5", ""}, {"8/8/8/r2KK3/8/8/8/8", "e5", ""}, {"4K3/8/8/r2PK3/8/8/8/8", "d5", "a5 b5 c5 d5"}, {"8/8/8/r2PK3/8/8/8/4K3", "d5", ""}, {"8/8/8/r2PK3/3P4/8/3K4/3r4", "d5", ""},
		{"8/8/4r3/4R3/r1P1K1Pr/3P4/2b5/8", "e5", "e5 e6"}, {"8/8/4r3/4R3/r1P1K1Pr/3P4/2b5/8", "c4", "a4 b4 c4 d4"}, {"8/8/4r3/4R3/r1P1K1Pr/3P4/2b5/8", "g4", "f4 g4 h4"}, {"8/8/4r3/4R3/r1P1K1Pr/3P4/2b5/8", "d3", "c2 d3"}, {"8/8/4r3/4R3/r1P1K1Pr/3P4/2b5/8", "e6", ""},
	} {
		if l := e.Pinned(on(t, c[0]), place(c[1])); !slices.Equal(l, places(c[2])) {
			t.Error("Pinned", c, l)
		}
	}
}

// P7.2: Pinned, each man by each man, to all eight sides of a king.
func TestPinnedByEach(t *testing.T) {
	e := New()
	king := place("d4")
	for _, m := range allMen {
		for _, by := range allMen {
			for files := -1; files <= 1; files++ {
				for ranks := -1; ranks <= 1; ranks++ {
					if files == 0 && ranks == 0 {
						continue
					}
					var b api.Board
					b[king] = 6 * int8(sign(int(m)))
					s, from := king+files+8*ranks, king+3*(files+8*ranks)
					b[s], b[from] = m, by
					var want []int
					if abs(int(m)) != 6 && (m > 0) != (by > 0) && slidesSo(by, files, ranks) {
						want = []int{s, s + files + 8*ranks, from}
						slices.Sort(want)
					}
					if l := e.Pinned(b, s); !slices.Equal(l, want) {
						t.Error("Pinned", m, by, files, ranks, l)
					}
				}
			}
		}
	}
}

// P7.2: Pinned, of each square, on each board.
func TestPinnedEach(t *testing.T) {
	e := New()
	pins := 0
	for _, b := range boards(t) {
		for s := range b {
			l := e.Pinned(b, s)
			if !slices.Equal(l, pinnedOn(b, s)) {
				t.Error("Pinned", b, s, l)
			}
			if len(l) > 0 {
				pins++
				pinMeans(t, b, s, l)
			}
		}
	}
	if pins < 50 {
		t.Error("few pins", pins)
	}
}

// pinMeans holds what Pinned tells against what it is for: put on any of these squares the man keeps who pins it from the king, on any other empty one it doesn't.
func pinMeans(t *testing.T, b api.Board, s int, told []int) {
	t.Helper()
	king := slices.Index(b[:], 6*int8(sign(int(b[s]))))
	from := told[0]
	if abs(told[len(told)-1]-king) > abs(from-king) {
		from = told[len(told)-1]
	}
	for to, there := range b {
		if there != 0 && to != s && to != from {
			continue
		}
		after := b
		after[s] = 0
		after[to] = b[s]
		struck := to != from && hits(after, from, king)
		if struck == slices.Contains(told, to) {
			t.Error("on", to, b, s, told)
		}
	}
}

// P7.3: a man strikes just the squares that By tells of it.
func TestBothWays(t *testing.T) {
	e := New()
	for _, b := range boards(t) {
		var by [2][64][]int
		for s := range b {
			by[0][s], by[1][s] = e.By(b, s, 0), e.By(b, s, 1)
		}
		for from, m := range b {
			strikes := e.Strikes(b, from)
			for to := range b {
				for side := range 2 {
					want := ofSide(m, side) && slices.Contains(strikes, to)
					if slices.Contains(by[side][to], from) != want {
						t.Error("By", b, from, to, side, want)
					}
				}
			}
		}
	}
}

// P7.3: of a nil Eye there is nothing, whatever is asked.
func TestNilEye(t *testing.T) {
	var e *Eye
	for _, b := range boards(t) {
		for s := range b {
			nothing(t, e, b, s, 0)
			nothing(t, e, b, s, 1)
		}
		for _, s := range noSquares {
			nothing(t, e, b, s, 0)
		}
		for _, side := range append([]int{0, 1}, noSides...) {
			nothing(t, e, b, 28, side)
			if e.Check(b, side) {
				t.Error("Check", b, side)
			}
		}
	}
	b := on(t, texts[4])
	b[20] = 99
	nothing(t, e, b, 51, 0)
}

// spoil writes into a list and into the room behind it.
func spoil(l []int) {
	l = l[:cap(l)]
	for i := range l {
		l[i] = -99
	}
}

// R4, R5: answers that are written into change nothing that is answered next, by this Eye or another.
func TestAnswersAreNew(t *testing.T) {
	e, other := New(), New()
	if e == nil || other == nil {
		t.Fatal("no Eye")
	}
	for _, b := range boards(t)[:2*len(texts)] {
		for s := range b {
			for _, ask := range []func(e *Eye) []int{
				func(e *Eye) []int { return e.Strikes(b, s) },
				func(e *Eye) []int { return e.By(b, s, 0) },
				func(e *Eye) []int { return e.By(b, s, 1) },
				func(e *Eye) []int { return e.Pinned(b, s) },
			} {
				kept := ask(e)
				want := slices.Clone(kept)
				spoil(ask(e))
				if !slices.Equal(kept, want) || !slices.Equal(ask(e), want) || !slices.Equal(ask(other), want) {
					t.Error("again", b, s, kept, ask(e), ask(other))
				}
			}
		}
	}
}
