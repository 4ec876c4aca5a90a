package pos

import (
	"math"
	"strings"
	"testing"

	"alfil/api"
	"alfil/forsyth"
)

// noSides are numbers that are none; some of them would be one if they were cut to fewer bits.
var noSides = []int{-1, -2, 2, 3, 4, 7, -128, 128, 255, 256, 257, 1 << 16, 1 << 32, 1<<32 + 1, math.MinInt32, math.MaxInt32, math.MinInt + 1, math.MinInt, math.MaxInt - 1, math.MaxInt}

// noCastles are numbers that are no sum of rights; some of them would be one if they were cut to fewer bits.
var noCastles = []int{-1, -2, -15, -16, 16, 17, 24, 31, 32, 128, 256, 257, 1 << 16, 1 << 32, 1<<32 + 15, math.MinInt32, math.MaxInt32, math.MinInt + 1, math.MinInt, math.MaxInt - 1, math.MaxInt}

// noEps are numbers that are neither a square nor -1; some of them would be one if they were cut to fewer bits.
var noEps = []int{-2, -3, -8, -21, -64, 64, 65, 107, 127, 128, 255, 256, 256 + 43, 1 << 16, 1<<32 + 43, 1<<32 + 20, 1<<32 - 1, math.MinInt32, math.MaxInt32, math.MinInt + 1, math.MinInt, math.MaxInt - 1, math.MaxInt}

// noRights are numbers that are none of the four, sums of several among them.
var noRights = []int{0, 3, 5, 6, 7, 9, 10, 11, 12, 13, 14, 15, 16, 17, 32, 64, 128, 256, 257, -1, -2, -4, -8, 1<<16 + 1, 1 << 32, 1<<32 + 1, 1<<32 + 8, math.MinInt32, math.MaxInt32, math.MinInt + 1, math.MinInt, math.MaxInt - 1, math.MaxInt}

// noMen are numbers of a board that are neither a man nor nothing.
var noMen = []int8{7, -7, 8, -8, 64, -64, 127, -127, -128}

// texts are well formed boards, with few men and with many: rights backed and not, pawns that may have gone two squares, kings that touch or are in check.
var texts = []string{
	"rnbqkbnr/pppppppp/8/8/8/8/PPPPPPPP/RNBQKBNR",
	"4k3/8/8/8/8/8/8/4K3",
	"r3k2r/8/8/8/8/8/8/R3K2R",
	"R3k2R/8/8/8/8/8/8/r3K2r",
	"r3K2r/8/8/8/8/8/8/R3k2R",
	"r3k3/8/8/8/8/8/8/4K2R",
	"r2k3r/8/8/8/8/8/8/R2K3R",
	"1r2k1r1/8/8/8/8/8/8/1R2K1R1",
	"rr2k1rr/8/8/8/8/8/8/RQ2K1BR",
	"4k3/8/8/pPpPpPpP/PpPpPpPp/8/8/4K3",
	"4k3/8/8/PpPpPpPp/pPpPpPpP/8/8/4K3",
	"4k3/pp2pp2/1p1p1p1p/pppp1ppp/8/8/8/4K3",
	"rnbqkbnr/pp1ppppp/8/2p5/4P3/8/PPPP1PPP/RNBQKBNR",
	"r3k2r/p1ppqpb1/bn2pnp1/3PN3/1p2P3/2N2Q1p/PPPBBPPP/R3K2R",
	"8/2p5/3p4/KP5r/1R3p1k/8/4P1P1/8",
	"8/8/8/3kK3/8/8/8/8",
	"8/8/8/3k4/4K3/8/8/8",
	"8/8/8/3k1K2/8/8/8/8",
	"4k3/4R3/8/8/8/8/4r3/4K3",
	"4k3/8/8/1B6/8/8/8/r3K3",
	"4k3/3P4/8/8/8/3n4/8/4K3",
}

// place is the number of a square's name, found by its signs' places.
func place(name string) int {
	return strings.IndexByte("12345678", name[1])*8 + strings.IndexByte("abcdefgh", name[0])
}

// on is the board of a Forsyth text.
func on(t *testing.T, text string) api.Board {
	t.Helper()
	b, _, e := forsyth.Read(text)
	if e != api.OK {
		t.Fatal(text, e)
	}
	return b
}

// at is a position of a Forsyth text; ep is a square's name, or "-".
func at(t *testing.T, text string, turn, castle int, ep string) api.Pos {
	t.Helper()
	s := -1
	if ep != "-" {
		s = place(ep)
	}
	return api.Pos{At: on(t, text), Turn: turn, Castle: castle, Ep: s}
}

// mirrored is a board upside down, each man of the other side, put together rank by rank.
func mirrored(b api.Board) api.Board {
	var out api.Board
	for rank := range 8 {
		for file := range 8 {
			out[(7-rank)*8+file] = -b[rank*8+file]
		}
	}
	return out
}

// boards are those of the texts and some that a plain row of numbers makes, from few men to many, each mirrored as well; all of them have one king a side and no pawn at the edge.
func boards(t *testing.T) []api.Board {
	t.Helper()
	var out []api.Board
	for _, text := range texts {
		out = append(out, on(t, text), mirrored(on(t, text)))
	}
	n := uint32(7)
	next := func(below int) int {
		n = n*1664525 + 1013904223
		return int(n>>8) % below
	}
	for many := range 120 {
		var b api.Board
		for range many % 30 {
			b[8+next(48)] = []int8{1, -1, 1, -1, 2, -2, 3, -3, 4, -4, 5, -5}[next(12)]
		}
		b[next(32)], b[32+next(32)] = 6, -6
		if many%2 == 0 {
			for _, corner := range []int{0, 7, 56, 63} {
				if b[corner] == 0 {
					b[corner] = []int8{4, -4, 2}[next(3)]
				}
			}
		}
		out = append(out, b, mirrored(b))
	}
	return out
}

func abs(n int) int { return max(n, -n) }

// struckFrom tells whether a man of a board strikes a square, by how many files and ranks are between them.
func struckFrom(b api.Board, from, to int) bool {
	m, files, ranks := int(b[from]), to%8-from%8, to/8-from/8
	if m == 0 || from == to {
		return false
	}
	straight, slant := files == 0 || ranks == 0, abs(files) == abs(ranks)
	switch abs(m) {
	case 1:
		return ranks == m && abs(files) == 1
	case 2:
		return abs(files)*abs(ranks) == 2
	case 6:
		return abs(files) <= 1 && abs(ranks) <= 1
	}
	if abs(m) == 4 && !straight || abs(m) == 3 && !slant || !straight && !slant {
		return false
	}
	far := max(abs(files), abs(ranks))
	for n := 1; n < far; n++ {
		if b[(from/8+n*ranks/far)*8+from%8+n*files/far] != 0 {
			return false
		}
	}
	return true
}

// inCheck tells whether a side's king is struck.
func inCheck(b api.Board, side int) bool {
	own := int8(1 - 2*side)
	for from, m := range b {
		for to, there := range b {
			if there == 6*own && m*own < 0 && struckFrom(b, from, to) {
				return true
			}
		}
	}
	return false
}

// stands tells whether a right's king and rook stand at home, square by square.
func stands(b api.Board, right int) bool {
	switch right {
	case 1:
		return b[4] == 6 && b[7] == 4
	case 2:
		return b[4] == 6 && b[0] == 4
	case 4:
		return b[60] == -6 && b[63] == -4
	case 8:
		return b[60] == -6 && b[56] == -4
	}
	return false
}

// went is the square of the pawn that went two squares, and whether there is one.
func went(p api.Pos) (int, bool) {
	ep := p.Ep
	switch {
	case p.Turn == 0 && 40 <= ep && ep <= 47:
		if p.At[ep] == 0 && p.At[ep+8] == 0 && p.At[ep-8] == -1 {
			return ep - 8, true
		}
	case p.Turn == 1 && 16 <= ep && ep <= 23:
		if p.At[ep] == 0 && p.At[ep-8] == 0 && p.At[ep+8] == 1 {
			return ep + 8, true
		}
	}
	return 0, false
}

// lacks is what the chapter says of a position's error, if its board lacks nothing; a side in check is told beforehand.
func lacks(p api.Pos, check [2]bool) api.Errno {
	if p.Turn != 0 && p.Turn != 1 || p.Castle < 0 || p.Castle > 15 || p.Ep < -1 || p.Ep > 63 {
		return api.ErrArg
	}
	if check[1-p.Turn] {
		return api.ErrTouch
	}
	for _, right := range []int{1, 2, 4, 8} {
		if p.Castle&right != 0 && !stands(p.At, right) {
			return api.ErrCastle
		}
	}
	if _, is := went(p); p.Ep != -1 && !is {
		return api.ErrPassant
	}
	return api.OK
}

// P8.1: Wrong, told by hand.
func TestWrongNamed(t *testing.T) {
	for _, c := range []struct {
		text         string
		turn, castle int
		ep           string
		want         api.Errno
	}{
		{texts[0], 0, 15, "-", api.OK}, {texts[0], 1, 15, "-", api.OK}, {texts[0], 0, 0, "-", api.OK}, {texts[0], 0, 15, "e3", api.ErrPassant}, {texts[0], 1, 15, "e3", api.ErrPassant},
		{texts[1], 0, 0, "-", api.OK}, {texts[1], 1, 0, "-", api.OK}, {texts[1], 0, 1, "-", api.ErrCastle}, {texts[1], 1, 8, "-", api.ErrCastle},
		// Each right by itself, and several together.
		{texts[2], 0, 1, "-", api.OK}, {texts[2], 0, 2, "-", api.OK}, {texts[2], 1, 4, "-", api.OK}, {texts[2], 1, 8, "-", api.OK}, {texts[2], 0, 15, "-", api.OK}, {texts[2], 1, 6, "-", api.OK},
		{texts[5], 0, 1, "-", api.OK}, {texts[5], 0, 8, "-", api.OK}, {texts[5], 0, 9, "-", api.OK}, {texts[5], 0, 2, "-", api.ErrCastle}, {texts[5], 0, 4, "-", api.ErrCastle}, {texts[5], 0, 3, "-", api.ErrCastle}, {texts[5], 1, 12, "-", api.ErrCastle}, {texts[5], 0, 15, "-", api.ErrCastle},
		// Rooks beside their corners, kings beside their homes.
		{texts[7], 0, 1, "-", api.ErrCastle}, {texts[7], 0, 8, "-", api.ErrCastle}, {texts[8], 0, 15, "-", api.OK},
		{"r2k3r/8/8/8/8/8/8/R3K2R", 0, 3, "-", api.OK}, {"r2k3r/8/8/8/8/8/8/R3K2R", 0, 4, "-", api.ErrCastle}, {"r2k3r/8/8/8/8/8/8/R3K2R", 0, 8, "-", api.ErrCastle},
		{"r3k2r/8/8/8/8/8/8/R4K1R", 0, 12, "-", api.OK}, {"r3k2r/8/8/8/8/8/8/R4K1R", 0, 1, "-", api.ErrCastle}, {"r3k2r/8/8/8/8/8/8/R4K1R", 0, 2, "-", api.ErrCastle},
		// Another man, or one of the other side, at home.
		{"4k3/8/8/8/8/8/8/B3K2N", 0, 1, "-", api.ErrCastle}, {"4k3/8/8/8/8/8/8/Q3K2R", 0, 2, "-", api.ErrCastle}, {"4k3/8/8/8/8/8/8/4KB1r", 0, 1, "-", api.ErrCastle}, {"4k3/8/8/8/8/8/8/rB2K3", 0, 2, "-", api.ErrCastle}, {"4kb1R/8/8/8/8/8/8/4K3", 1, 4, "-", api.ErrCastle}, {"Rb2k3/8/8/8/8/8/8/4K3", 1, 8, "-", api.ErrCastle},
		{"4K3/8/8/8/8/8/8/R3k2R", 1, 1, "-", api.ErrCastle}, {"r3K2r/8/8/8/8/8/8/4k3", 0, 8, "-", api.ErrCastle},
		// Kings that touch, whoever is to move; kings that nearly do.
		{"8/8/8/3kK3/8/8/8/8", 0, 0, "-", api.ErrTouch}, {"8/8/8/3kK3/8/8/8/8", 1, 0, "-", api.ErrTouch}, {"8/8/8/3k4/4K3/8/8/8", 0, 0, "-", api.ErrTouch}, {"8/8/8/3k4/3K4/8/8/8", 1, 0, "-", api.ErrTouch}, {"8/8/8/3k1K2/8/8/8/8", 0, 0, "-", api.OK}, {"8/8/8/3k4/8/4K3/8/8", 1, 0, "-", api.OK}, {"7k/K7/8/8/8/8/8/8", 0, 0, "-", api.OK},
		// Who isn't to move in check, and who is.
		{"4k3/8/8/8/8/8/4R3/4K3", 0, 0, "-", api.ErrTouch}, {"4k3/8/8/8/8/8/4R3/4K3", 1, 0, "-", api.OK}, {"4k3/8/8/8/8/8/8/r3K3", 1, 0, "-", api.ErrTouch}, {"4k3/8/8/8/8/8/8/r3K3", 0, 0, "-", api.OK},
		{"4k3/5P2/8/8/8/8/8/4K3", 0, 0, "-", api.ErrTouch}, {"4k3/5P2/8/8/8/8/8/4K3", 1, 0, "-", api.OK}, {"4k3/8/8/8/8/5n2/8/4K3", 1, 0, "-", api.ErrTouch}, {"4k3/4R3/8/8/8/8/4r3/4K3", 0, 0, "-", api.ErrTouch}, {"4k3/4R3/8/8/8/8/4r3/4K3", 1, 0, "-", api.ErrTouch},
		{"r3k2r/8/8/8/8/8/4R3/R3K2R", 1, 15, "-", api.OK},
		// Pawns that went two squares, of either side, on files within and at the edge.
		{"4k3/8/8/3pP3/8/8/8/4K3", 0, 0, "d6", api.OK}, {"4k3/8/8/3p4/8/8/8/4K3", 0, 0, "d6", api.OK}, {"4k3/8/8/p6p/8/8/8/4K3", 0, 0, "a6", api.OK}, {"4k3/8/8/p6p/8/8/8/4K3", 0, 0, "h6", api.OK},
		{"4k3/8/8/8/3Pp3/8/8/4K3", 1, 0, "d3", api.OK}, {"4k3/8/8/8/P6P/8/8/4K3", 1, 0, "a3", api.OK}, {"4k3/8/8/8/P6P/8/8/4K3", 1, 0, "h3", api.OK},
		{"4k3/8/8/3pP3/8/8/8/4K3", 0, 0, "-", api.OK}, {"4k3/8/8/3pP3/8/8/8/4K3", 0, 0, "e6", api.ErrPassant}, {"4k3/8/8/3pP3/8/8/8/4K3", 0, 0, "c6", api.ErrPassant}, {"4k3/8/8/3pP3/8/8/8/4K3", 0, 0, "d5", api.ErrPassant}, {"4k3/8/8/3pP3/8/8/8/4K3", 0, 0, "d7", api.ErrPassant}, {"4k3/8/8/3pP3/8/8/8/4K3", 0, 0, "d3", api.ErrPassant},
		// The right rank of the wrong side.
		{"4k3/8/8/3pP3/8/8/8/4K3", 1, 0, "d6", api.ErrPassant}, {"4k3/8/8/8/3Pp3/8/8/4K3", 0, 0, "d3", api.ErrPassant}, {"4k3/8/8/3P4/3p4/8/8/4K3", 0, 0, "d3", api.ErrPassant}, {"4k3/8/8/3P4/3p4/8/8/4K3", 1, 0, "d6", api.ErrPassant},
		// Somebody on Ep, or behind it; beside, or behind that, nobody cares.
		{"4k3/8/3n4/3p4/8/8/8/4K3", 0, 0, "d6", api.ErrPassant}, {"4k3/8/3N4/3p4/8/8/8/4K3", 1, 0, "d6", api.ErrPassant}, {"4k3/3n4/8/3p4/8/8/8/4K3", 0, 0, "d6", api.ErrPassant}, {"4k3/3B4/8/3p4/8/8/8/K7", 0, 0, "d6", api.ErrTouch}, {"5k2/3B4/8/3p4/8/8/8/K7", 0, 0, "d6", api.ErrPassant}, {"3qk3/2p1p3/2p1p3/3p4/3p4/8/8/4K3", 0, 0, "d6", api.OK},
		{"4k3/8/8/8/3P4/3N4/8/4K3", 1, 0, "d3", api.ErrPassant}, {"4k3/8/8/8/3P4/8/3N4/4K3", 1, 0, "d3", api.ErrPassant}, {"4k3/8/8/3P4/3P4/2P1P3/2P1P3/3QK3", 1, 0, "d3", api.OK},
		// Nobody in front of Ep, or one of one's own, or no pawn.
		{"4k3/8/8/8/3p4/8/8/4K3", 0, 0, "d6", api.ErrPassant}, {"4k3/8/8/3P4/8/8/8/4K3", 0, 0, "d6", api.ErrPassant}, {"4k3/8/8/3n4/8/8/8/4K3", 0, 0, "d6", api.ErrPassant}, {"4k3/3p4/8/8/8/8/8/4K3", 0, 0, "d6", api.ErrPassant},
		{"4k3/8/8/8/3p4/8/8/4K3", 1, 0, "d3", api.ErrPassant}, {"4k3/8/8/8/3Q4/8/8/4K3", 1, 0, "d3", api.ErrPassant}, {"4k3/8/8/8/8/8/3P4/4K3", 1, 0, "d3", api.ErrPassant},
		{"rnbqkbnr/pppp1ppp/8/4p3/4P3/8/PPPP1PPP/RNBQKBNR", 0, 15, "e6", api.OK}, {"rnbqkbnr/pppp1ppp/8/4p3/4P3/8/PPPP1PPP/RNBQKBNR", 1, 15, "e3", api.OK}, {"rnbqkbnr/pppp1ppp/8/4p3/4P3/8/PPPP1PPP/RNBQKBNR", 0, 15, "e3", api.ErrPassant},
		// Boards that lack something.
		{"4k3/8/8/8/8/8/8/8", 0, 0, "-", api.ErrKings}, {"8/8/8/8/8/8/8/8", 0, 0, "-", api.ErrKings}, {"4k3/8/8/8/8/8/8/3KK3", 0, 0, "-", api.ErrKings}, {"4k3/8/8/8/8/8/8/P3K3", 0, 0, "-", api.ErrPawns}, {"4k2p/8/8/8/8/8/8/4K3", 0, 0, "-", api.ErrPawns}, {"4k3/8/8/8/8/N7/PPPPPPPP/RNBQKBNR", 0, 0, "-", api.ErrMen},
	} {
		if e := Wrong(at(t, c.text, c.turn, c.castle, c.ep)); e != c.want {
			t.Error("Wrong", c, e)
		}
	}
}

// P8.1: Wrong, with each sum of rights, each Ep and either side to move, on each board.
func TestWrongEach(t *testing.T) {
	many := map[api.Errno]int{}
	for _, b := range boards(t) {
		men := [2]int{}
		for _, m := range b {
			if m > 0 {
				men[0]++
			} else if m < 0 {
				men[1]++
			}
		}
		full := men[0] > 16 || men[1] > 16
		check := [2]bool{inCheck(b, 0), inCheck(b, 1)}
		for turn := range 2 {
			for castle := range 16 {
				for ep := -1; ep <= 63; ep++ {
					p := api.Pos{At: b, Turn: turn, Castle: castle, Ep: ep}
					want := lacks(p, check)
					if full {
						want = api.ErrMen
					}
					many[want]++
					if e := Wrong(p); e != want {
						t.Fatal("Wrong", p, e, want)
					}
				}
			}
		}
	}
	for _, e := range []api.Errno{api.OK, api.ErrMen, api.ErrTouch, api.ErrCastle, api.ErrPassant} {
		if many[e] < 50 {
			t.Error("few", e, many[e])
		}
	}
}

// P8.1: Wrong, of numbers that are no side, no sum of rights, no Ep; the bounds themselves are none of these.
func TestWrongNumbers(t *testing.T) {
	for _, text := range texts[:15] {
		for turn := range 2 {
			p := at(t, text, turn, 0, "-")
			before := Wrong(p)
			if before == api.ErrArg {
				t.Error("Wrong", p)
			}
			for _, n := range noSides {
				q := p
				q.Turn = n
				wrongNumber(t, q)
			}
			for _, n := range noCastles {
				q := p
				q.Castle = n
				wrongNumber(t, q)
			}
			for _, n := range noEps {
				q := p
				q.Ep = n
				wrongNumber(t, q)
			}
		}
	}
	p := at(t, texts[2], 0, 15, "-")
	for ep, want := range map[int]api.Errno{-2: api.ErrArg, -1: api.OK, 0: api.ErrPassant, 63: api.ErrPassant, 64: api.ErrArg} {
		p.Ep = ep
		if e := Wrong(p); e != want {
			t.Error("Ep", ep, e)
		}
	}
}

func wrongNumber(t *testing.T, p api.Pos) {
	t.Helper()
	if e := Wrong(p); e != api.ErrArg {
		t.Error("Wrong", p, e)
	}
}

// P8.1: Wrong, of boards that may be none, whatever else they lack.
func TestWrongNoBoard(t *testing.T) {
	for s := range 64 {
		for _, m := range noMen {
			for _, p := range []api.Pos{First(), at(t, texts[1], 0, 0, "-"), at(t, texts[15], 7, 99, "-"), {Turn: -1, Castle: -1, Ep: -2}} {
				p.At[s] = m
				wrongNumber(t, p)
			}
		}
	}
}

// P8.1: the order in which what is lacking is told: everything lacks at first, and is mended step by step.
func TestWrongOrder(t *testing.T) {
	// Two white kings and a black one that touches them, a pawn on the first rank, seventeen white men, a number that is no man's.
	b := on(t, "8/8/PPPPPPPP/PPPP4/8/2Q5/1k6/PKK5")
	b[63] = 7
	p := api.Pos{At: b, Turn: 2, Castle: 16, Ep: 64}
	for i, c := range []struct {
		mend func()
		want api.Errno
	}{
		{func() {}, api.ErrArg},
		{func() { p.At[63] = 4 }, api.ErrKings},
		{func() { p.At[place("c1")] = 4 }, api.ErrPawns},
		{func() { p.At[place("a1")] = 2 }, api.ErrMen},
		{func() { p.At[place("a6")], p.At[place("b6")] = 0, 0 }, api.ErrArg},
		{func() { p.Turn = 0 }, api.ErrArg},
		{func() { p.Castle = 15 }, api.ErrArg},
		{func() { p.Ep = place("c6") }, api.ErrTouch},
		{func() { p.At[place("b2")], p.At[place("a8")] = 0, -6 }, api.ErrTouch},
		{func() { p.At[63] = 0 }, api.ErrCastle},
		{func() { p.Castle = 7 }, api.ErrCastle},
		{func() { p.Castle = 4 }, api.ErrCastle},
		{func() { p.Castle = 0 }, api.ErrPassant},
		{func() { p.At[place("c6")] = 0 }, api.ErrPassant},
		{func() { p.At[place("c5")] = -1 }, api.OK},
	} {
		c.mend()
		if e := Wrong(p); e != c.want {
			t.Error("Wrong", i, e, c.want)
		}
	}
}

// P8.1: one thing that is lacking ahead of each other one.
func TestWrongAhead(t *testing.T) {
	for _, c := range []struct {
		text             string
		turn, castle, ep int
		want             api.Errno
	}{
		{"4k3/8/8/8/8/8/8/8", 2, 0, -1, api.ErrKings}, {"4k3/8/8/8/8/8/8/8", 0, 16, -1, api.ErrKings}, {"4k3/8/8/8/8/8/8/8", 0, 0, -2, api.ErrKings},
		{"4k3/8/8/8/8/8/8/P3K3", 2, 16, 64, api.ErrPawns}, {"4k3/8/8/8/8/N7/PPPPPPPP/RNBQKBNR", 2, 16, 64, api.ErrMen},
		{"3kK3/8/8/8/8/8/8/P7", 0, 0, -1, api.ErrPawns}, {"4k3/8/8/8/8/8/8/P3K3", 0, 15, 20, api.ErrPawns}, {"4k3/8/8/8/8/N7/PPPPPPPP/RNBQKBNR", 0, 15, 20, api.ErrMen},
		{"3kK3/8/8/8/8/8/8/8", 2, 0, -1, api.ErrArg}, {"3kK3/8/8/8/8/8/8/8", 0, -1, -1, api.ErrArg}, {"3kK3/8/8/8/8/8/8/8", 0, 0, 64, api.ErrArg},
		{"4k3/8/8/8/8/8/8/4K3", 0, 1, -2, api.ErrArg}, {"4k3/8/8/8/8/8/8/4K3", 2, 15, 20, api.ErrArg}, {"4k3/8/8/8/8/8/8/4K3", 0, 16, 20, api.ErrArg},
		{"3kK3/8/8/8/8/8/8/8", 0, 1, -1, api.ErrTouch}, {"3kK3/8/8/8/8/8/8/8", 0, 0, 20, api.ErrTouch}, {"4k3/8/8/8/8/8/4R3/4K3", 0, 15, 20, api.ErrTouch},
		{"4k3/8/8/8/8/8/8/4K3", 0, 1, 20, api.ErrCastle}, {"4k3/8/8/8/8/8/8/4K3", 1, 8, 43, api.ErrCastle},
	} {
		p := api.Pos{At: on(t, c.text), Turn: c.turn, Castle: c.castle, Ep: c.ep}
		if e := Wrong(p); e != c.want {
			t.Error("Wrong", c, e)
		}
	}
}

// P8.2: Of, of each board with either side to move, and with what is none.
func TestOf(t *testing.T) {
	right, wrong := 0, 0
	ask := func(b api.Board, turn int) {
		want := api.Pos{At: b, Turn: turn, Castle: 0, Ep: -1}
		e := Wrong(want)
		if e != api.OK {
			want = api.Pos{}
			wrong++
		} else {
			right++
		}
		if p, got := Of(b, turn); p != want || got != e {
			t.Error("Of", b, turn, p, got)
		}
	}
	for _, b := range boards(t) {
		ask(b, 0)
		ask(b, 1)
		for _, turn := range noSides {
			ask(b, turn)
		}
		for _, m := range noMen {
			c := b
			c[27] = m
			ask(c, 0)
		}
	}
	if right < 50 || wrong < 50 {
		t.Error("few", right, wrong)
	}
}

// P8.2: Of, told by hand.
func TestOfNamed(t *testing.T) {
	for _, c := range []struct {
		text string
		turn int
		want api.Errno
	}{
		{texts[0], 0, api.OK}, {texts[0], 1, api.OK}, {texts[2], 1, api.OK}, {texts[0], 2, api.ErrArg}, {texts[0], -1, api.ErrArg},
		{"4k3/8/8/8/8/8/4R3/4K3", 0, api.ErrTouch}, {"4k3/8/8/8/8/8/4R3/4K3", 1, api.OK}, {"8/8/8/3kK3/8/8/8/8", 1, api.ErrTouch},
		{"8/8/8/8/8/8/8/8", 0, api.ErrKings}, {"8/8/8/8/8/8/8/8", 2, api.ErrKings}, {"4k3/8/8/8/8/8/8/P3K3", 0, api.ErrPawns}, {"rnbqkbnr/pppppppp/n7/8/8/8/8/4K3", 0, api.ErrMen},
	} {
		want := api.Pos{}
		if c.want == api.OK {
			want = at(t, c.text, c.turn, 0, "-")
		}
		if p, e := Of(on(t, c.text), c.turn); p != want || e != c.want {
			t.Error("Of", c, p, e)
		}
	}
}

// P8.2: First, and the chapter's examples.
func TestFirst(t *testing.T) {
	p := First()
	if p != at(t, texts[0], 0, 15, "-") || Wrong(p) != api.OK {
		t.Error("First", p)
	}
	p.Ep = 20
	if Wrong(p) != api.ErrPassant {
		t.Error("Ep 20", Wrong(p))
	}
	if First() == p || First() != First() {
		t.Error("First, again")
	}
}

// P8.2: Backed, told by hand: which of the rights 1, 2, 4, 8 are.
func TestBackedNamed(t *testing.T) {
	for text, want := range map[string][4]bool{
		texts[0]: {true, true, true, true}, texts[1]: {}, texts[2]: {true, true, true, true}, texts[3]: {}, texts[4]: {}, texts[5]: {true, false, false, true}, texts[6]: {}, texts[7]: {}, texts[8]: {true, true, true, true},
		"4k2r/8/8/8/8/8/8/R3K3": {false, true, true, false}, "r3k2r/8/8/8/8/8/8/4K3": {false, false, true, true}, "4k3/8/8/8/8/8/8/R3K2R": {true, true, false, false},
		"r2k3r/8/8/8/8/8/8/R3K2R": {true, true, false, false}, "r3k2r/8/8/8/8/8/8/R2K3R": {false, false, true, true},
		"R3k2r/8/8/8/8/8/8/r3K2R": {true, false, true, false}, "q3k2n/8/8/8/8/8/8/Q3K2B": {}, "8/8/8/8/8/8/8/R3K3": {false, true, false, false}, "4k2r/4k3/8/8/8/8/8/8": {false, false, true, false},
		"k3k2r/8/8/8/8/8/8/K3K2R": {true, false, true, false}, "P3k3/8/8/8/8/8/8/4K2p": {},
	} {
		b := on(t, text)
		for i, right := range []int{1, 2, 4, 8} {
			for castle := range 16 {
				if Backed(api.Pos{At: b, Castle: castle, Ep: -1}, right) != want[i] {
					t.Error("Backed", text, right, castle)
				}
			}
		}
	}
}

// P8.2: Backed, of each right, with any number on a king's or a rook's home, whatever else the position has.
func TestBackedEach(t *testing.T) {
	for _, right := range []int{1, 2, 4, 8} {
		for _, home := range []string{"a1", "e1", "h1", "a8", "e8", "h8", "d4"} {
			for n := -128; n <= 127; n++ {
				for _, p := range []api.Pos{First(), {At: on(t, texts[2]), Turn: 1, Ep: 20}, {At: on(t, texts[8]), Turn: 7, Castle: -1, Ep: 99}} {
					p.At[place(home)] = int8(n)
					if Backed(p, right) != stands(p.At, right) {
						t.Error("Backed", p, right)
					}
				}
			}
		}
	}
	for _, b := range boards(t) {
		for _, right := range []int{1, 2, 4, 8} {
			if Backed(api.Pos{At: b}, right) != stands(b, right) {
				t.Error("Backed", b, right)
			}
		}
	}
}

// P8.2: Backed, of what is none of the four, sums of them among it.
func TestBackedNoRight(t *testing.T) {
	for _, text := range texts {
		for castle := range 16 {
			for _, right := range noRights {
				if Backed(api.Pos{At: on(t, text), Castle: castle, Ep: -1}, right) {
					t.Error("Backed", text, castle, right)
				}
			}
		}
	}
}

// P8.2: Passed, told by names.
func TestPassedNamed(t *testing.T) {
	for _, c := range []struct {
		text string
		turn int
		ep   string
		want string
	}{
		{"4k3/8/8/3pP3/8/8/8/4K3", 0, "d6", "d5"}, {"4k3/8/8/3pP3/8/8/8/4K3", 1, "d6", ""}, {"4k3/8/8/3pP3/8/8/8/4K3", 0, "-", ""}, {"4k3/8/8/3pP3/8/8/8/4K3", 0, "e6", ""}, {"4k3/8/8/3pP3/8/8/8/4K3", 0, "d5", ""},
		{"4k3/8/8/8/3Pp3/8/8/4K3", 1, "d3", "d4"}, {"4k3/8/8/8/3Pp3/8/8/4K3", 0, "d3", ""}, {"4k3/8/8/8/3Pp3/8/8/4K3", 1, "-", ""}, {"4k3/8/8/8/3Pp3/8/8/4K3", 1, "e3", ""},
		{"4k3/8/8/p6p/P6P/8/8/4K3", 0, "a6", "a5"}, {"4k3/8/8/p6p/P6P/8/8/4K3", 0, "h6", "h5"}, {"4k3/8/8/p6p/P6P/8/8/4K3", 1, "a3", "a4"}, {"4k3/8/8/p6p/P6P/8/8/4K3", 1, "h3", "h4"},
		{"4k3/3p4/8/3p4/8/8/8/4K3", 0, "d6", ""}, {"4k3/8/3p4/3p4/8/8/8/4K3", 0, "d6", ""}, {"4k3/8/8/8/3P4/8/3P4/4K3", 1, "d3", ""}, {"4k3/8/8/8/3P4/3P4/8/4K3", 1, "d3", ""},
		// What else the board lacks isn't asked.
		{"8/8/8/3p4/8/8/8/8", 0, "d6", "d5"}, {"8/8/8/8/3P4/8/8/p7", 1, "d3", "d4"}, {"3Kk3/8/8/3p4/8/8/8/8", 0, "d6", "d5"},
		// Ep on another rank: no pawn is told, though one stands in front of it and nobody behind.
		{"8/8/8/8/8/8/8/3p4", 0, "d2", ""}, {"3P4/8/8/8/8/8/8/8", 1, "d7", ""}, {"3p4/8/8/8/8/8/8/3P4", 0, "d8", ""}, {"3p4/8/8/8/8/8/8/3P4", 1, "d1", ""},
	} {
		s, is := Passed(at(t, c.text, c.turn, 0, c.ep))
		if c.want == "" && (s != 0 || is) || c.want != "" && (s != place(c.want) || !is) {
			t.Error("Passed", c, s, is)
		}
	}
}

// P8.2: Passed, of each Ep and either side, on each board, and with any number on Ep, behind it, and in front of it.
func TestPassedEach(t *testing.T) {
	many := [2]int{}
	ask := func(p api.Pos) {
		want, passed := went(p)
		if s, is := Passed(p); s != want || is != passed {
			t.Error("Passed", p, s, is)
		}
		if passed {
			many[p.Turn]++
		}
	}
	for _, b := range boards(t) {
		for ep := -1; ep <= 63; ep++ {
			ask(api.Pos{At: b, Turn: 0, Ep: ep})
			ask(api.Pos{At: b, Turn: 1, Ep: ep, Castle: 15})
		}
	}
	for _, p := range []api.Pos{at(t, "4k3/8/8/3pP3/8/8/8/4K3", 0, 0, "d6"), at(t, "4k3/8/8/8/3Pp3/8/8/4K3", 1, 0, "d3")} {
		for _, s := range []int{p.Ep, p.Ep + 8, p.Ep - 8, p.Ep + 1, p.Ep + 16, p.Ep - 16} {
			for n := -128; n <= 127; n++ {
				q := p
				q.At[s] = int8(n)
				ask(q)
			}
		}
	}
	if many[0] < 50 || many[1] < 50 {
		t.Error("few", many)
	}
}

// P8.2: Passed, of numbers that are no side and no Ep.
func TestPassedNumbers(t *testing.T) {
	for _, b := range append(boards(t), api.Board{}) {
		for _, turn := range noSides {
			for ep := -1; ep <= 63; ep++ {
				nonePassed(t, api.Pos{At: b, Turn: turn, Ep: ep})
			}
		}
		for _, ep := range append([]int{-1}, noEps...) {
			nonePassed(t, api.Pos{At: b, Turn: 0, Ep: ep})
			nonePassed(t, api.Pos{At: b, Turn: 1, Ep: ep})
			nonePassed(t, api.Pos{At: b, Turn: 2, Ep: ep})
		}
	}
}

func nonePassed(t *testing.T, p api.Pos) {
	t.Helper()
	if s, is := Passed(p); s != 0 || is {
		t.Error("Passed", p, s, is)
	}
}

// P8.2: Turned, told by hand: each of the rights by itself and several together, Ep of either side and none.
func TestTurnedNamed(t *testing.T) {
	for _, c := range [][2]api.Pos{
		{First(), at(t, "rnbqkbnr/pppppppp/8/8/8/8/PPPPPPPP/RNBQKBNR", 1, 15, "-")},
		{at(t, "r3k3/8/8/3pP3/8/8/8/4K2R", 0, 9, "d6"), at(t, "4k2r/8/8/8/3Pp3/8/8/R3K3", 1, 6, "d3")},
		{at(t, "r3k2r/8/8/8/8/8/8/R3K2R", 0, 1, "-"), at(t, "r3k2r/8/8/8/8/8/8/R3K2R", 1, 4, "-")},
		{at(t, "r3k2r/8/8/8/8/8/8/R3K2R", 0, 2, "-"), at(t, "r3k2r/8/8/8/8/8/8/R3K2R", 1, 8, "-")},
		{at(t, "r3k2r/8/8/8/8/8/8/R3K2R", 1, 3, "-"), at(t, "r3k2r/8/8/8/8/8/8/R3K2R", 0, 12, "-")},
		{at(t, "r3k2r/8/8/8/8/8/8/R3K2R", 1, 7, "-"), at(t, "r3k2r/8/8/8/8/8/8/R3K2R", 0, 13, "-")},
		{at(t, "r3k2r/8/8/8/8/8/8/R3K2R", 1, 0, "-"), at(t, "r3k2r/8/8/8/8/8/8/R3K2R", 0, 0, "-")},
		{at(t, "4k3/8/8/8/7P/8/8/QK6", 1, 0, "h3"), at(t, "qk6/8/8/7p/8/8/8/4K3", 0, 0, "h6")},
		{at(t, "8/8/8/8/8/8/8/8", 0, 0, "a1"), at(t, "8/8/8/8/8/8/8/8", 1, 0, "a8")},
	} {
		if q := Turned(c[0]); q != c[1] {
			t.Error("Turned", c[0], q)
		}
		if q := Turned(c[1]); q != c[0] {
			t.Error("Turned", c[1], q)
		}
	}
}

// P8.2: Turned, with each sum of rights and each Ep, on each board; twice it is the position itself; what it lacks, and which pawn went two squares, is turned with it.
func TestTurnedEach(t *testing.T) {
	rights := map[int]int{1: 4, 2: 8, 4: 1, 8: 2}
	for _, b := range boards(t) {
		for castle := range 16 {
			for ep := -1; ep <= 63; ep++ {
				p := api.Pos{At: b, Turn: castle % 2, Castle: castle, Ep: ep}
				want := api.Pos{At: mirrored(b), Turn: 1 - p.Turn, Ep: -1}
				for from, to := range rights {
					if castle&from != 0 {
						want.Castle += to
					}
				}
				if ep >= 0 {
					want.Ep = (7-ep/8)*8 + ep%8
				}
				q := Turned(p)
				if q != want || Turned(q) != p {
					t.Fatal("Turned", p, q)
				}
				if Wrong(q) != Wrong(p) {
					t.Error("Wrong", p, q, Wrong(p), Wrong(q))
				}
			}
		}
		for from, to := range rights {
			p := api.Pos{At: b, Ep: -1}
			if Backed(p, from) != Backed(Turned(p), to) {
				t.Error("Backed", p, from, to)
			}
		}
	}
}

// P8.2: Turned, of numbers that are none: what is no man as layer 3 turns it, what is no side as layer 2's Other has it, what is no square as layer 1 flips it; of a sum that isn't one the rights that it has.
func TestTurnedNumbers(t *testing.T) {
	for _, n := range noSides {
		if q := Turned(api.Pos{Turn: n}); q.Turn != -1 {
			t.Error("Turned", n, q.Turn)
		}
	}
	for _, n := range noEps {
		if q := Turned(api.Pos{Ep: n}); q.Ep != -1 {
			t.Error("Turned", n, q.Ep)
		}
	}
	for _, n := range noCastles {
		low := n & 15
		if q := Turned(api.Pos{Castle: n}); q.Castle != low%4*4+low/4 {
			t.Error("Turned", n, q.Castle)
		}
	}
	for n, want := range map[int8]int8{7: -7, -7: 7, 127: -127, -127: 127, -128: -128} {
		p := First()
		p.At[place("d4")] = n
		if q := Turned(p); q.At[place("d5")] != want || q.At[place("d4")] != 0 {
			t.Error("Turned", n, q.At)
		}
	}
}

// P8.2: Same: positions that differ in rights and Ep alone are; those with another man, or another side to move, aren't.
func TestSame(t *testing.T) {
	for _, b := range boards(t) {
		p := api.Pos{At: b, Turn: 0, Castle: 15, Ep: 43}
		for castle := -1; castle <= 16; castle++ {
			for ep := -2; ep <= 64; ep++ {
				q := api.Pos{At: b, Turn: 0, Castle: castle, Ep: ep}
				same(t, p, q, true)
				q.Turn = 1
				same(t, p, q, false)
			}
		}
		for s := range b {
			q := p
			q.At[s] = b[s]%6 + 1
			same(t, p, q, q.At[s] == b[s])
			q.At[s] = b[s]
			same(t, p, q, true)
		}
		q := Turned(p)
		same(t, p, q, false)
		same(t, p, Turned(q), true)
	}
	for _, n := range noSides {
		same(t, api.Pos{Turn: n}, api.Pos{Turn: n, Castle: 3, Ep: 7}, true)
		same(t, api.Pos{Turn: n}, api.Pos{Turn: 0}, false)
		same(t, api.Pos{Turn: n}, api.Pos{Turn: 1}, false)
	}
	p, q := First(), First()
	p.At[27], q.At[27] = 7, 7
	same(t, p, q, true)
	q.At[27] = -128
	same(t, p, q, false)
}

// same asks both ways about.
func same(t *testing.T, p, q api.Pos, want bool) {
	t.Helper()
	if Same(p, q) != want || Same(q, p) != want {
		t.Error("Same", p, q, want)
	}
}

// R5: what was asked ahead changes no answer.
func TestAgain(t *testing.T) {
	p := at(t, "r3k3/8/8/3pP3/8/8/8/4K2R", 0, 9, "d6")
	kept := p
	for range 2 {
		s, is := Passed(p)
		if Wrong(p) != api.OK || s != place("d5") || !is || !Backed(p, 8) || Backed(p, 4) || !Same(p, Turned(Turned(p))) || p != kept {
			t.Error("again", p, s, is)
		}
		Wrong(api.Pos{Turn: 9})
		Of(api.Board{}, 3)
		Turned(First())
	}
}
