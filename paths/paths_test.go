package paths

import (
	"fmt"
	"math"
	"slices"
	"strings"
	"testing"

	"alfil/api"
	"alfil/forsyth"
	"alfil/legal"
	"alfil/move"
	"alfil/pos"
)

// noSquares are numbers that are none; some of them would be one if they were cut to fewer bits, or their sign were lost.
var noSquares = []int{-1, -2, -12, -63, -64, 64, 65, 76, 127, 128, 255, 256, 256 + 12, 1<<16 + 12, 1 << 32, 1<<32 + 12, 1<<32 - 1, math.MinInt32, math.MaxInt32, math.MinInt + 1, math.MinInt, math.MaxInt - 1, math.MaxInt}

// noPromos are numbers that nothing turns into, likewise.
var noPromos = []int{-1, -2, -5, -6, 1, 6, 7, 8, 256 + 5, 1<<16 + 5, 1<<32 + 5, math.MinInt32, math.MaxInt32, math.MinInt, math.MaxInt}

// noLengths are numbers that are no length, and beyond whose bounds nothing is counted, likewise.
var noLengths = []int{-1, -2, -7, -8, -9, 9, 10, 16, 64, 256, 256 + 2, 1<<16 + 1, 1 << 32, 1<<32 + 1, math.MinInt32, math.MaxInt32, math.MinInt, math.MinInt + 1, math.MaxInt - 1, math.MaxInt}

// noMosts are numbers that are no most, likewise.
var noMosts = []int{-1, -2, -10000, 10001, 10002, 20000, 1 << 16, 1<<32 + 400, math.MinInt32, math.MaxInt32, math.MinInt, math.MinInt + 1, math.MaxInt - 1, math.MaxInt}

// budgets are numbers of which nothing but their bounds is asked.
var budgets = []int{0, 1, -1, 20, 1000, math.MinInt, math.MaxInt}

// place is the number of a square's name, found by its signs' places.
func place(name string) int {
	return strings.IndexByte("12345678", name[1])*8 + strings.IndexByte("abcdefgh", name[0])
}

// at is a position of a Forsyth text; ep is a square's name, or "-".
func at(t *testing.T, text string, turn, castle int, ep string) api.Pos {
	t.Helper()
	b, _, e := forsyth.Read(text)
	if e != api.OK {
		t.Fatal(text, e)
	}
	s := -1
	if ep != "-" && ep != "" {
		s = place(ep)
	}
	return api.Pos{At: b, Turn: turn, Castle: castle, Ep: s}
}

// of is the move of two names and a letter, of which none need be a move's.
func of(text string) api.Move {
	m := api.Move{From: place(text[:2]), To: place(text[2:4])}
	if len(text) > 4 {
		m.Promo = strings.IndexByte("?pnbrqk", text[4])
	}
	return m
}

// path are the moves of texts between blanks.
func path(texts string) []api.Move {
	var out []api.Move
	for _, text := range strings.Fields(texts) {
		out = append(out, of(text))
	}
	return out
}

// told are the paths of texts between commas.
func told(texts string) [][]api.Move {
	var out [][]api.Move
	for _, text := range strings.Split(texts, ",") {
		out = append(out, path(text))
	}
	return out
}

// mirrored is a position as the other side sees it, put together rank by rank.
func mirrored(p api.Pos) api.Pos {
	q := api.Pos{Turn: 1 - p.Turn, Castle: p.Castle%4*4 + p.Castle/4, Ep: -1}
	for s, m := range p.At {
		q.At[s^56] = -m
	}
	if p.Ep >= 0 {
		q.Ep = p.Ep ^ 56
	}
	return q
}

func mirroredMove(m api.Move) api.Move {
	return api.Move{From: m.From ^ 56, To: m.To ^ 56, Promo: m.Promo}
}

func mirroredPath(path []api.Move) []api.Move {
	var out []api.Move
	for _, m := range path {
		out = append(out, mirroredMove(m))
	}
	return out
}

// comesFirst is the order of paths, asked part by part: below 0, if a is ahead, above it, if b is.
func comesFirst(a, b []api.Move) int {
	for i := range a {
		if i == len(b) {
			return 1
		}
		for _, two := range [][2]int{{a[i].From, b[i].From}, {a[i].To, b[i].To}, {b[i].Promo, a[i].Promo}} {
			if two[0] < two[1] {
				return -1
			}
			if two[0] > two[1] {
				return 1
			}
		}
	}
	if len(a) < len(b) {
		return -1
	}
	return 0
}

// mirroredAll are the paths of the mirrored position, in order.
func mirroredAll(paths [][]api.Move) [][]api.Move {
	var out [][]api.Move
	for _, path := range paths {
		out = append(out, mirroredPath(path))
	}
	slices.SortFunc(out, comesFirst)
	return out
}

// show is a position, short enough to be read where a test fails.
func show(p api.Pos) string {
	text, _ := forsyth.Write(p.At)
	return fmt.Sprint(text, " ", p.Turn, p.Castle, p.Ep)
}

// texts are a path's moves, likewise.
func texts(path []api.Move) string {
	var out []string
	for _, m := range path {
		out = append(out, move.Text(m))
	}
	return strings.Join(out, " ")
}

// allTexts are those of paths.
func allTexts(paths [][]api.Move) string {
	var out []string
	for _, path := range paths {
		out = append(out, texts(path))
	}
	return strings.Join(out, ",")
}

// same is whether two lists hold the same paths, one by one.
func same(a, b [][]api.Move) bool { return slices.EqualFunc(a, b, slices.Equal) }

// right fails where a position that a test wants to be right isn't.
func right(t *testing.T, p api.Pos) {
	t.Helper()
	if e := pos.Wrong(p); e != api.OK {
		t.Fatal("right", show(p), e)
	}
}

// reached is a path, and the position behind it.
type reached struct {
	path []api.Move
	p    api.Pos
}

// further are the paths that are longer by one move, asked of the rules one by one.
func further(t *testing.T, paths []reached) []reached {
	t.Helper()
	r := legal.New()
	var out []reached
	for _, one := range paths {
		for _, m := range r.Moves(one.p) {
			q, e := r.Play(one.p, m)
			if e != api.OK {
				t.Fatal("Play", show(one.p), move.Text(m), e)
			}
			out = append(out, reached{append(slices.Clone(one.path), m), q})
		}
	}
	return out
}

// counts asks for a count by a budget that is just enough, more, and one that is too small, wherever there is one.
func counts(t *testing.T, p api.Pos, length, through, want int) {
	t.Helper()
	for _, budget := range []int{through, through + 1, through + 1000, math.MaxInt} {
		if n, e := Count(p, length, budget); n != want || e != api.OK {
			t.Error("Count", show(p), length, budget, n, e, "not", want)
		}
	}
	for _, budget := range []int{through - 1, through / 2, 0, -1, -through, math.MinInt} {
		n, e := Count(p, length, budget)
		switch {
		case through > max(budget, 0) && (n != 0 || e != api.ErrBudget):
			t.Error("Count", show(p), length, budget, n, e, "not the budget's end at", through)
		case through <= max(budget, 0) && (n != want || e != api.OK):
			t.Error("Count", show(p), length, budget, n, e, "not", want)
		}
	}
}

// tells asks for all paths, by a most that is just enough, more, and one that is too small, wherever there is one.
func tells(t *testing.T, p api.Pos, length int, want [][]api.Move) {
	t.Helper()
	for _, most := range []int{len(want), min(len(want)+1, 10000), 10000} {
		if paths, e := All(p, length, most); !same(paths, want) || e != api.OK {
			t.Error("All", show(p), length, most, allTexts(paths), e, "not", allTexts(want))
		}
	}
	for _, most := range []int{len(want) - 1, len(want) / 2, 0} {
		paths, e := All(p, length, most)
		switch {
		case len(want) > most && (len(paths) != 0 || e != api.ErrRange):
			t.Error("All", show(p), length, most, len(paths), e)
		case len(want) <= most && (!same(paths, want) || e != api.OK):
			t.Error("All", show(p), length, most, allTexts(paths), e)
		}
	}
}

// goes is a position, with how many paths of each length there are, by hand, and all of the greatest of these lengths, in order.
type goes struct {
	text         string
	turn, castle int
	ep           string
	many         []int
	all          string
}

// ask asks for all of these, and the same of the mirrored position.
func (c goes) ask(t *testing.T) {
	t.Helper()
	p := at(t, c.text, c.turn, c.castle, c.ep)
	for _, p := range []api.Pos{p, mirrored(p)} {
		right(t, p)
		through := 0
		for length, many := range c.many {
			counts(t, p, length, through, many)
			through += many
		}
	}
	if c.all != "" {
		longest := len(c.many) - 1
		tells(t, p, longest, told(c.all))
		tells(t, mirrored(p), longest, mirroredAll(told(c.all)))
	}
}

// P12.1: the first position: one path of no move, twenty of one, four hundred of two, and so on.
func TestFirst(t *testing.T) {
	p := pos.First()
	white := path("b1a3 b1c3 g1f3 g1h3 a2a3 a2a4 b2b3 b2b4 c2c3 c2c4 d2d3 d2d4 e2e3 e2e4 f2f3 f2f4 g2g3 g2g4 h2h3 h2h4")
	black := path("a7a5 a7a6 b7b5 b7b6 c7c5 c7c6 d7d5 d7d6 e7e5 e7e6 f7f5 f7f6 g7g5 g7g6 h7h5 h7h6 b8a6 b8c6 g8f6 g8h6")
	counts(t, p, 0, 0, 1)
	counts(t, p, 1, 1, 20)
	counts(t, p, 2, 21, 400)
	counts(t, p, 3, 421, 8902)
	tells(t, p, 0, [][]api.Move{nil})
	var one, two [][]api.Move
	for _, m := range white {
		one = append(one, []api.Move{m})
		for _, n := range black {
			two = append(two, []api.Move{m, n})
		}
	}
	tells(t, p, 1, one)
	tells(t, p, 2, two)
	p.Turn = 1
	one = nil
	for _, m := range black {
		one = append(one, []api.Move{m})
	}
	tells(t, p, 1, one)
	counts(t, p, 2, 21, 400)
}

// P12.1: by hand: kings alone, either side's to move.
func TestKings(t *testing.T) {
	for _, c := range []goes{
		{text: "8/8/8/8/8/k7/8/K7", many: []int{1, 1, 3, 12}, all: "a1b1 a3b3 b1a1,a1b1 a3b3 b1c1," +
			"a1b1 a3a4 b1a1,a1b1 a3a4 b1c1,a1b1 a3a4 b1a2,a1b1 a3a4 b1b2,a1b1 a3a4 b1c2," +
			"a1b1 a3b4 b1a1,a1b1 a3b4 b1c1,a1b1 a3b4 b1a2,a1b1 a3b4 b1b2,a1b1 a3b4 b1c2"},
		{text: "8/8/8/8/8/k7/8/1K6", turn: 1, many: []int{1, 3}, all: "a3b3,a3a4,a3b4"},
		{text: "8/8/8/8/8/8/8/K6k", many: []int{1, 3, 9}, all: "a1b1 h1g1,a1b1 h1g2,a1b1 h1h2,a1a2 h1g1,a1a2 h1g2,a1a2 h1h2,a1b2 h1g1,a1b2 h1g2,a1b2 h1h2"},
		{text: "8/8/8/8/8/8/8/K6k", turn: 1, many: []int{1, 3, 9}, all: "h1g1 a1b1,h1g1 a1a2,h1g1 a1b2,h1g2 a1b1,h1g2 a1a2,h1g2 a1b2,h1h2 a1b1,h1h2 a1a2,h1h2 a1b2"},
	} {
		c.ask(t)
	}
}

// P12.1: mate and stalemate, at the start and behind some moves: the path of no moves is there, and none goes on. A pawn turns into each of the four men, the greater one first.
func TestEnds(t *testing.T) {
	for _, c := range []goes{
		{text: "8/8/8/8/8/2k5/1q6/K7", many: []int{1, 0, 0, 0, 0, 0, 0, 0, 0}},
		{text: "8/8/8/8/8/1k6/2q5/K7", many: []int{1, 0, 0, 0, 0, 0, 0, 0, 0}},
		{text: "rnb1kbnr/pppp1ppp/8/4p3/6Pq/5P2/PPPPP2P/RNBQKBNR", castle: 15, many: []int{1, 0, 0}},
		{text: "7k/5K2/6Q1/8/8/8/8/8", turn: 1, many: []int{1, 0, 0}},
		// One move on, it is mate by a queen or a rook, and stalemate behind one of the king's.
		{text: "k7/2P5/1K6/8/8/8/8/8", many: []int{1, 9, 9}, all: "b6a5 a8a7,b6a5 a8b7,b6b5 a8a7,b6b5 a8b7,b6c5 a8a7,b6c5 a8b7,b6c6 a8a7,c7c8b a8b8,c7c8n a8b8"},
		{text: "k7/2P5/1K6/8/8/8/8/8", many: []int{1, 9}, all: "b6a5,b6b5,b6c5,b6a6,b6c6,c7c8q,c7c8r,c7c8b,c7c8n"},
		// Stalemate with a pawn that is blocked, and a king that is, whose pawn goes.
		{text: "8/8/8/8/p7/P1k5/2q5/K7", many: []int{1, 0, 0}},
		{text: "k7/8/1Q6/8/8/8/p1K5/8", turn: 1, many: []int{1, 4}, all: "a2a1q,a2a1r,a2a1b,a2a1n"},
		// Fool's mate, behind its last move but one.
		{text: "rnbqkbnr/pppp1ppp/8/4p3/6P1/5P2/PPPPP2P/RNBQKBNR", turn: 1, castle: 15, many: []int{1, 30}},
	} {
		c.ask(t)
	}
	// No path goes on from the move that mates.
	p := at(t, "rnbqkbnr/pppp1ppp/8/4p3/6P1/5P2/PPPPP2P/RNBQKBNR", 1, 15, "-")
	paths, e := All(p, 2, 10000)
	mates := slices.ContainsFunc(paths, func(path []api.Move) bool { return path[0] == of("d8h4") })
	if e != api.OK || len(paths) == 0 || mates {
		t.Error("mate", len(paths), e, mates)
	}
}

// P12.1: paths that take in passing, by hand, and that may not a move later.
func TestPassing(t *testing.T) {
	for _, c := range []goes{
		{text: "8/8/8/8/3p4/k7/4P3/K7", many: []int{1, 3, 14}, all: "a1b1 a3b3,a1b1 a3a4,a1b1 a3b4,a1b1 d4d3," +
			"e2e3 a3b3,e2e3 a3a4,e2e3 a3b4,e2e3 d4d3,e2e3 d4e3," +
			"e2e4 a3b3,e2e4 a3a4,e2e4 a3b4,e2e4 d4d3,e2e4 d4e3"},
		{text: "8/8/8/8/3pP3/k7/8/K7", turn: 1, ep: "e3", many: []int{1, 5}, all: "a3b3,a3a4,a3b4,d4d3,d4e3"},
		{text: "8/8/8/8/3pP3/k7/8/K7", turn: 1, many: []int{1, 4}, all: "a3b3,a3a4,a3b4,d4d3"},
	} {
		c.ask(t)
	}
	p := at(t, "8/8/8/8/3p4/k7/4P3/K7", 0, 0, "-")
	paths, e := All(p, 4, 10000)
	at := func(m string) int {
		return slices.IndexFunc(paths, func(path []api.Move) bool { return slices.Equal(path, told(m)[0]) })
	}
	if e != api.OK || at("e2e4 a3a4 a1b1 d4e3") >= 0 || at("e2e4 a3a4 a1b1 d4d3") < 0 || at("a1b1 a3a4 e2e4 d4e3") < 0 {
		t.Error("a move later", e, len(paths))
	}
}

// P12.1: paths that castle, by hand: to either side, by either side, and not where the king would be struck.
func TestCastling(t *testing.T) {
	for _, c := range []goes{
		{text: "8/8/8/8/8/p1k4p/P6P/R3K2R", castle: 3, many: []int{1, 11}, all: "a1b1,a1c1,a1d1,e1c1,e1d1,e1f1,e1g1,e1e2,e1f2,h1f1,h1g1"},
		{text: "8/8/8/8/8/p1k4p/P6P/R3K2R", castle: 1, many: []int{1, 10}, all: "a1b1,a1c1,a1d1,e1d1,e1f1,e1g1,e1e2,e1f2,h1f1,h1g1"},
		{text: "8/8/8/8/8/p1k4p/P6P/R3K2R", castle: 2, many: []int{1, 10}, all: "a1b1,a1c1,a1d1,e1c1,e1d1,e1f1,e1e2,e1f2,h1f1,h1g1"},
		{text: "8/8/8/8/8/p1k4p/P6P/R3K2R", many: []int{1, 9}, all: "a1b1,a1c1,a1d1,e1d1,e1f1,e1e2,e1f2,h1f1,h1g1"},
		{text: "6r1/8/8/8/8/p1k4p/P6P/R3K2R", castle: 3, many: []int{1, 10}, all: "a1b1,a1c1,a1d1,e1c1,e1d1,e1f1,e1e2,e1f2,h1f1,h1g1"},
	} {
		c.ask(t)
	}
}

// P12.1: how many games there are, from positions of which that is well known, with men of every kind that castle, take in passing and turn into others.
func TestGames(t *testing.T) {
	for _, c := range []goes{
		{text: "r3k2r/p1ppqpb1/bn2pnp1/3PN3/1p2P3/2N2Q1p/PPPBBPPP/R3K2R", castle: 15, many: []int{1, 48, 2039}},
		{text: "8/2p5/3p4/KP5r/1R3p1k/8/4P1P1/8", many: []int{1, 14, 191, 2812}},
		{text: "r3k2r/Pppp1ppp/1b3nbN/nP6/BBP1P3/q4N2/Pp1P2PP/R2Q1RK1", castle: 12, many: []int{1, 6, 264}},
		{text: "rnbq1k1r/pp1Pbppp/2p5/8/2B5/8/PPP1NnPP/RNBQK2R", castle: 3, many: []int{1, 44, 1486}},
		{text: "r4rk1/1pp1qppp/p1np1n2/2b1p1B1/2B1P1b1/P1NP1N2/1PP1QPPP/R4RK1", many: []int{1, 46, 2079}},
	} {
		c.ask(t)
	}
	// A length further, once each: counted as often as paths lead there, which several ones do here.
	for _, c := range []struct {
		text                   string
		castle                 int
		length, through, count int
	}{
		{"rnbqkbnr/pppppppp/8/8/8/8/PPPPPPPP/RNBQKBNR", 15, 4, 9323, 197281},
		{"r3k2r/p1ppqpb1/bn2pnp1/3PN3/1p2P3/2N2Q1p/PPPBBPPP/R3K2R", 15, 3, 2088, 97862},
		{"8/2p5/3p4/KP5r/1R3p1k/8/4P1P1/8", 0, 4, 3018, 43238},
		{"r3k2r/Pppp1ppp/1b3nbN/nP6/BBP1P3/q4N2/Pp1P2PP/R2Q1RK1", 12, 3, 271, 9467},
	} {
		p := at(t, c.text, 0, c.castle, "-")
		if n, e := Count(p, c.length, c.through); n != c.count || e != api.OK {
			t.Error("Count", show(p), c.length, n, e)
		}
		if n, e := Count(p, c.length, c.through-1); n != 0 || e != api.ErrBudget {
			t.Error("Count", show(p), c.length, n, e)
		}
	}
}

// P12.1: positions to which more than one path leads are gone through, and the paths behind them counted, as often.
func TestOften(t *testing.T) {
	p := at(t, "8/8/8/8/8/8/8/K6k", 0, 0, "-")
	paths := []reached{{nil, p}}
	through := 0
	for length := range 6 {
		ends := map[api.Pos]int{}
		for _, one := range paths {
			ends[one.p]++
		}
		if length == 3 && len(ends) >= len(paths) {
			t.Error("each position is met once", length, len(ends), len(paths))
		}
		counts(t, p, length, through, len(paths))
		through += len(paths)
		paths = further(t, paths)
	}
}

// named are right positions with men of every kind of either side, in check and not, either side's to move.
func named(t *testing.T) []api.Pos {
	t.Helper()
	var out []api.Pos
	for _, p := range []api.Pos{
		pos.First(),
		at(t, "4k3/8/8/8/8/8/8/4K3", 0, 0, "-"),
		at(t, "r3k2r/8/8/8/8/8/8/R3K2R", 0, 15, "-"),
		at(t, "4k3/8/8/8/8/8/4r3/R3K2R", 0, 3, "-"),
		at(t, "4k3/8/8/pPpPpPpP/PpPpPpPp/8/8/4K3", 0, 0, "c6"),
		at(t, "7k/8/8/K2pP2r/8/8/8/8", 0, 0, "d6"),
		at(t, "1n2kn2/P1P3P1/8/8/8/8/p1p3p1/1N2KN2", 0, 0, "-"),
		at(t, "r3k2r/1P4P1/2P5/P2pP3/3P4/1P6/P1p3p1/R3K2R", 0, 15, "d6"),
		at(t, "8/8/8/1k6/3Pp3/8/8/4KQ2", 1, 0, "d3"),
		at(t, "8/1p6/2k5/2n5/2B5/5K2/6R1/q7", 1, 0, "-"),
		at(t, "k1K5/p7/P7/8/8/8/8/8", 0, 0, "-"),
		at(t, "8/8/8/8/8/2k5/1q6/K7", 0, 0, "-"),
		at(t, "8/8/8/8/8/1k6/2q5/K7", 0, 0, "-"),
	} {
		right(t, p)
		right(t, mirrored(p))
		out = append(out, p, mirrored(p))
	}
	return out
}

// P12.1, P12.2: all paths, held against those that are longer by one move each time; their ends, and their order.
func TestEach(t *testing.T) {
	for _, p := range named(t) {
		paths := []reached{{nil, p}}
		through := 0
		for length := 0; length <= 8 && len(paths) <= 700; length++ {
			var want [][]api.Move
			for _, one := range paths {
				want = append(want, one.path)
				if q, e := End(p, one.path); q != one.p || e != api.OK {
					t.Error("End", show(p), texts(one.path), show(q), e)
				}
			}
			counts(t, p, length, through, len(paths))
			tells(t, p, length, want)
			if !slices.IsSortedFunc(want, comesFirst) {
				t.Error("order", show(p), length)
			}
			through += len(paths)
			paths = further(t, paths)
		}
	}
}

// P12.1: as many as may be asked for, and one more.
func TestMost(t *testing.T) {
	for _, c := range []struct {
		text               string
		turn, length, many int
	}{
		{"6R1/1n6/2P3pK/8/7R/2k5/6B1/8", 0, 3, 10000},
		{"1K6/2B5/1k3N2/8/8/8/8/1n6", 1, 4, 10000},
		{"2B5/8/6p1/4K3/8/8/P7/3k4", 0, 4, 10000},
		{"8/2K5/4B3/4k3/b7/5Pq1/8/8", 1, 3, 10001},
		{"1r6/8/8/4Q3/K7/q2k4/5n2/8", 0, 4, 10001},
	} {
		p := at(t, c.text, c.turn, 0, "-")
		if n, e := Count(p, c.length, 100000); n != c.many || e != api.OK {
			t.Error("Count", show(p), n, e)
		}
		paths, e := All(p, c.length, 10000)
		if c.many > 10000 && (len(paths) != 0 || e != api.ErrRange) {
			t.Error("All", show(p), len(paths), e)
		}
		if c.many == 10000 && (len(paths) != 10000 || e != api.OK) {
			t.Error("All", show(p), len(paths), e)
		}
		if paths, e := All(p, c.length, 9999); len(paths) != 0 || e != api.ErrRange {
			t.Error("All", show(p), len(paths), e)
		}
	}
	paths, e := All(pos.First(), 3, 8902)
	if len(paths) != 8902 || e != api.OK || !slices.IsSortedFunc(paths, comesFirst) {
		t.Error("All", len(paths), e)
	}
	if paths, e := All(pos.First(), 3, 8901); len(paths) != 0 || e != api.ErrRange {
		t.Error("All", len(paths), e)
	}
}

// P12.1: what isn't wanted isn't gone through: long paths, of which there are far too many, are left early.
func TestLeftEarly(t *testing.T) {
	for _, most := range []int{0, 1, 100, 10000} {
		if paths, e := All(pos.First(), 8, most); len(paths) != 0 || e != api.ErrRange {
			t.Error("All", most, len(paths), e)
		}
	}
	for _, budget := range []int{math.MinInt, -1, 0, 1, 8, 1000} {
		if n, e := Count(pos.First(), 8, budget); n != 0 || e != api.ErrBudget {
			t.Error("Count", budget, n, e)
		}
	}
}

// P12.1: the length of most is eight; below 0 and above that there is none, whatever budget and most are.
func TestLengths(t *testing.T) {
	p := at(t, "8/8/8/8/8/2k5/1q6/K7", 0, 0, "-")
	for _, p := range []api.Pos{p, mirrored(p), pos.First()} {
		for _, length := range noLengths {
			for _, budget := range budgets {
				if n, e := Count(p, length, budget); n != 0 || e != api.ErrRange {
					t.Error("Count", show(p), length, budget, n, e)
				}
			}
			for _, most := range append([]int{0, 1, 20, 10000}, noMosts...) {
				if paths, e := All(p, length, most); len(paths) != 0 || e != api.ErrRange {
					t.Error("All", show(p), length, most, len(paths), e)
				}
			}
		}
		// Of a most beyond its bounds nothing is told, though there be no path at all.
		for _, most := range noMosts {
			for length := range 9 {
				if paths, e := All(p, length, most); len(paths) != 0 || e != api.ErrRange {
					t.Error("All", show(p), length, most, len(paths), e)
				}
			}
		}
	}
	for length := 1; length <= 8; length++ {
		counts(t, p, length, 1, 0)
		tells(t, p, length, nil)
	}
}

// ends asks for the end of a path, and of the mirrored one; the path stays as it is.
func ends(t *testing.T, p api.Pos, path []api.Move, want api.Pos) {
	t.Helper()
	kept := slices.Clone(path)
	if q, e := End(p, path); q != want || e != api.OK {
		t.Error("End", show(p), texts(path), show(q), e, "not", show(want))
	}
	if q, e := End(mirrored(p), mirroredPath(path)); q != mirrored(want) || e != api.OK {
		t.Error("End", show(mirrored(p)), texts(mirroredPath(path)), show(q), e)
	}
	if !slices.Equal(path, kept) {
		t.Error("written into", texts(kept), texts(path))
	}
}

// P12.2: ends, by hand: games that castle, take in passing, and turn a pawn into each of the four men; the end of no moves.
func TestEnd(t *testing.T) {
	first := "rnbqkbnr/pppppppp/8/8/8/8/PPPPPPPP/RNBQKBNR"
	for _, c := range []struct {
		text           string
		turn, castle   int
		ep, path, want string
		wantCastle     int
		wantEp         string
	}{
		{first, 0, 15, "-", "", first, 15, "-"},
		{first, 0, 15, "-", "e2e4", "rnbqkbnr/pppppppp/8/8/4P3/8/PPPP1PPP/RNBQKBNR", 15, "e3"},
		{first, 0, 15, "-", "e2e4 e7e5", "rnbqkbnr/pppp1ppp/8/4p3/4P3/8/PPPP1PPP/RNBQKBNR", 15, "e6"},
		{first, 0, 15, "-", "e2e4 e7e5 g1f3 b8c6 f1b5", "r1bqkbnr/pppp1ppp/2n5/1B2p3/4P3/5N2/PPPP1PPP/RNBQK2R", 15, "-"},
		{first, 0, 15, "-", "f2f3 e7e5 g2g4 d8h4", "rnb1kbnr/pppp1ppp/8/4p3/6Pq/5P2/PPPPP2P/RNBQKBNR", 15, "-"},
		// A whole game, with White castling far, up to mate.
		{first, 0, 15, "-", "e2e4 e7e5 g1f3 d7d6 d2d4 c8g4 d4e5 g4f3 d1f3 d6e5 f1c4 g8f6 f3b3 d8e7 b1c3 c7c6 c1g5 b7b5 c3b5 c6b5 c4b5 b8d7 e1c1 a8d8 d1d7 d8d7 h1d1 e7e6 b5d7 f6d7 b3b8 d7b8 d1d8",
			"1n1Rkb1r/p4ppp/4q3/4p1B1/4P3/8/PPP2PPP/2K5", 4, "-"},
		// Both sides castle, each to either side.
		{"r3k2r/8/8/8/8/8/8/R3K2R", 0, 15, "-", "e1g1 e8c8", "2kr3r/8/8/8/8/8/8/R4RK1", 0, "-"},
		{"r3k2r/8/8/8/8/8/8/R3K2R", 0, 15, "-", "e1c1 e8g8", "r4rk1/8/8/8/8/8/8/2KR3R", 0, "-"},
		{"r3k2r/8/8/8/8/8/8/R3K2R", 0, 15, "-", "h1h8 e8d7 h8a8", "R7/3k4/8/8/8/8/8/R3K3", 2, "-"},
		// In passing, behind a move of one's own, and as the first move.
		{first, 0, 15, "-", "e2e4 a7a6 e4e5 d7d5 e5d6", "rnbqkbnr/1pp1pppp/p2P4/8/8/8/PPPP1PPP/RNBQKBNR", 15, "-"},
		{"4k3/8/8/3pP3/8/8/8/4K3", 0, 0, "d6", "e5d6 e8d7", "8/3k4/3P4/8/8/8/8/4K3", 0, "-"},
		{"4k3/8/8/3pP3/8/8/8/4K3", 0, 0, "d6", "", "4k3/8/8/3pP3/8/8/8/4K3", 0, "d6"},
		// Each of the four.
		{"1n2k3/P7/8/8/8/8/p7/4K1N1", 0, 0, "-", "a7b8q e8e7 g1f3 a2a1r", "1Q6/4k3/8/8/8/5N2/8/r3K3", 0, "-"},
		{"1n2k3/P7/8/8/8/8/p7/4K1N1", 0, 0, "-", "a7a8n e8e7 g1f3 a2a1b", "Nn6/4k3/8/8/8/5N2/8/b3K3", 0, "-"},
		{"1n2k3/P7/8/8/8/8/p7/4K1N1", 0, 0, "-", "a7b8r e8e7 g1f3 a2a1q", "1R6/4k3/8/8/8/5N2/8/q3K3", 0, "-"},
		{"1n2k3/P7/8/8/8/8/p7/4K1N1", 0, 0, "-", "a7b8b e8e7 g1f3 a2a1n", "1B6/4k3/8/8/8/5N2/8/n3K3", 0, "-"},
	} {
		p := at(t, c.text, c.turn, c.castle, c.ep)
		moves := path(c.path)
		want := at(t, c.want, (c.turn+len(moves))%2, c.wantCastle, c.wantEp)
		ends(t, p, moves, want)
	}
}

// P12.2: the end of no moves is the position itself; a path that is nil is one of no moves.
func TestEndOfNone(t *testing.T) {
	for _, p := range named(t) {
		for _, none := range [][]api.Move{nil, {}, make([]api.Move, 0, 9)} {
			ends(t, p, none, p)
		}
	}
}

// P12.2: a path may be longer than those that are counted.
func TestLongPath(t *testing.T) {
	p := pos.First()
	around := path("g1f3 g8f6 f3g1 f6g8")
	ends(t, p, slices.Repeat(around, 500), p)
	far := slices.Concat(slices.Repeat(around, 20), path("e2e4"))
	want := at(t, "rnbqkbnr/pppppppp/8/8/4P3/8/PPPP1PPP/RNBQKBNR", 1, 15, "e3")
	ends(t, p, far, want)
	noPath(t, p, append(far, of("e2e4")))
}

// noPath asks for the end of what is no path of a right position.
func noPath(t *testing.T, p api.Pos, moves []api.Move) {
	t.Helper()
	if q, e := End(p, moves); q != (api.Pos{}) || e != api.ErrArg {
		t.Error("End", show(p), moves, show(q), e)
	}
	if q, e := End(mirrored(p), mirroredPath(moves)); q != (api.Pos{}) || e != api.ErrArg {
		t.Error("End", show(mirrored(p)), moves, show(q), e)
	}
}

// P12.2: a move that isn't legal, as the first, in the midst, and as the last of a path.
func TestNoPath(t *testing.T) {
	first := pos.First()
	open := path("e2e4 e7e5 g1f3 b8c6 f1b5 d7d6")
	for place := 0; place <= len(open); place++ {
		whites := place%2 == 0
		for _, c := range []struct {
			text   string
			whites bool
		}{
			// Not formed: nobody's, the other side's, to one's own man, onto its own square, a promo where there is none.
			{"a5a6", true}, {"a5a6", false}, {"a7a6", true}, {"a2a3", false}, {"a1a2", true}, {"a8a7", false}, {"e1e1", true}, {"e8e8", false}, {"a2a3q", true}, {"a7a6n", false}, {"h2h4p", true},
			// Formed, and nobody goes so.
			{"a2a5", true}, {"a7a4", false}, {"b1d3", true}, {"a1a5", true}, {"h8h4", false}, {"e1e3", true}, {"a2b3", true}, {"a7b6", false}, {"e1c1", true}, {"e8g8", false}, {"e8c8", false},
		} {
			if c.whites == whites {
				noPath(t, first, slices.Insert(slices.Clone(open), place, of(c.text)))
				noPath(t, first, slices.Concat(open[:place], path(c.text)))
			}
		}
		for _, n := range noSquares {
			for _, m := range []api.Move{{From: n, To: 20}, {From: 12, To: n}, {From: n, To: n}, {From: 51, To: n}, {From: n, To: 35, Promo: 5}} {
				noPath(t, first, slices.Insert(slices.Clone(open), place, m))
				noPath(t, first, slices.Concat(open[:place], []api.Move{m}))
			}
		}
	}
	// In check the king's side must mend it; a knight that holds off the bishop on b5 may not leave.
	noPath(t, first, path("e2e4 e7e5 g1f3 d7d6 f1b5 a7a6"))
	noPath(t, first, path("e2e4 e7e5 g1f3 d7d6 f1b5 b8c6 a2a3 c6d4"))
	noPath(t, first, path("e2e4 e7e5 g1f3 d7d6 f1b5 b8c6 a2a3 c6d4 a3a4"))
	ends(t, first, path("e2e4 e7e5 g1f3 d7d6 f1b5 b8c6 a2a3 a7a6"), at(t, "r1bqkbnr/1pp2ppp/p1np4/1B2p3/4P3/P4N2/1PPP1PPP/RNBQK2R", 0, 15, "-"))
	// In passing a move too late; castling with a king that came back; nothing goes on from mate, or stalemate.
	noPath(t, first, path("e2e4 a7a6 e4e5 d7d5 a2a3 a6a5 e5d6"))
	noPath(t, at(t, "r3k2r/8/8/8/8/8/8/R3K2R", 0, 15, "-"), path("e1e2 e8e7 e2e1 e7e8 e1g1"))
	noPath(t, first, path("f2f3 e7e5 g2g4 d8h4 a2a3"))
	noPath(t, first, path("f2f3 e7e5 g2g4 d8h4 e1f2"))
	noPath(t, at(t, "k7/2P5/1K6/8/8/8/8/8", 0, 0, "-"), path("b6a6 a8b7"))
	for _, kings := range []string{"a3a2", "a3b2", "a3b4 b1b3"} {
		noPath(t, at(t, "8/8/8/8/8/k7/8/K7", 0, 0, "-"), slices.Concat(path("a1b1"), path(kings)))
	}
	for _, n := range noPromos {
		m := of("a7a8")
		m.Promo = n
		p := at(t, "4k3/P7/8/8/8/8/7p/4K3", 0, 0, "-")
		noPath(t, p, []api.Move{m})
		noPath(t, p, []api.Move{m, of("e8e7")})
		noPath(t, p, []api.Move{of("e1d1"), of("e8f7"), m})
		noPath(t, p, []api.Move{of("e1d1"), of("e8f7"), m, of("f7f8")})
	}
	noPath(t, at(t, "4k3/P7/8/8/8/8/7p/4K3", 0, 0, "-"), path("a7a8"))
	noPath(t, at(t, "4k3/P7/8/8/8/8/7p/4K3", 0, 0, "-"), path("e1d1 h2h1"))
}

// P12.2: the order of paths: by the first moves that differ, From, To, then Promo, the greater one first; shorter ones ahead of what they begin; of two that are alike neither is ahead.
func TestLess(t *testing.T) {
	rising := told(",a1a2,a1a2 a1a2,a1a2 h7h8,a1b3,b1a3,b1a3 a7a5,b1a3 a7a5 a1b1,b1a3 a7a5 a1b1 a8a7,b1a3 a7a5 b2b3,b1a3 a7a6,b1a3 h7h6,b1c3,b1c3 a7a5,a7a8q,a7a8q e8e7,a7a8r,a7a8b,a7a8n,a7a8,a7a8 a1a2,a7b8q,a7b8,h8h7")
	rising = append(rising, []api.Move{{From: math.MaxInt, To: math.MinInt, Promo: 3}}, []api.Move{{From: math.MaxInt, To: math.MaxInt, Promo: math.MaxInt}}, []api.Move{{From: math.MaxInt, To: math.MaxInt, Promo: math.MinInt}}, []api.Move{{From: math.MaxInt, To: math.MaxInt, Promo: math.MinInt}, {}})
	rising = slices.Insert(rising, 1, []api.Move{{From: math.MinInt, To: math.MaxInt, Promo: math.MinInt}}, []api.Move{{From: -1, To: 63, Promo: 1}}, []api.Move{{}}, []api.Move{{}, {}})
	for i, a := range rising {
		for j, b := range rising {
			if Less(a, b) != (i < j) {
				t.Error("Less", a, b, i, j)
			}
			if Less(slices.Clone(a), slices.Clone(a)) {
				t.Error("alike", a)
			}
		}
	}
	if Less(nil, nil) || Less(nil, []api.Move{}) || Less([]api.Move{}, nil) || Less(rising[3], nil) || !Less(nil, rising[1]) || !Less([]api.Move{}, []api.Move{{}}) {
		t.Error("nil")
	}
}

// P12.2: Less is the order in which paths of one length are told, and asks the moves part by part.
func TestLessOfAll(t *testing.T) {
	for _, p := range named(t) {
		var paths [][]api.Move
		for length := range 3 {
			some, _ := All(p, length, 10000)
			for i := 1; i < len(some); i++ {
				if !Less(some[i-1], some[i]) || Less(some[i], some[i-1]) {
					t.Error("Less", show(p), texts(some[i-1]), texts(some[i]))
				}
			}
			paths = append(paths, some[:min(len(some), 40)]...)
		}
		for _, a := range paths {
			for _, b := range paths {
				if Less(a, b) != (comesFirst(a, b) < 0) {
					t.Error("Less", texts(a), ",", texts(b))
				}
			}
		}
	}
}

// P12.1, P12.2: positions that lack something, with each of the errors that layer 8 tells, whatever length, budget, most or path is.
func TestWrongPosition(t *testing.T) {
	p := at(t, "r3k2r/8/8/3pP3/8/8/5P2/R3K2R", 0, 15, "d6")
	right(t, p)
	met := map[api.Errno]bool{}
	for i, c := range []struct {
		want  api.Errno
		spoil func(p *api.Pos)
	}{
		{api.ErrArg, func(p *api.Pos) { p.At[40] = 7 }},
		{api.ErrArg, func(p *api.Pos) { p.At[40] = -128 }},
		{api.ErrKings, func(p *api.Pos) { p.At[40] = 6 }},
		{api.ErrKings, func(p *api.Pos) { p.At[60] = 0 }},
		{api.ErrKings, func(p *api.Pos) { *p = api.Pos{} }},
		{api.ErrKings, func(p *api.Pos) { *p = api.Pos{Turn: 9, Castle: 99, Ep: 99} }},
		{api.ErrPawns, func(p *api.Pos) { p.At[1] = 1 }},
		{api.ErrPawns, func(p *api.Pos) { p.At[57] = 1 }},
		{api.ErrMen, func(p *api.Pos) { copy(p.At[16:32], slices.Repeat([]int8{2}, 16)) }},
		{api.ErrArg, func(p *api.Pos) { p.Turn = 2 }},
		{api.ErrArg, func(p *api.Pos) { p.Turn = -1 }},
		{api.ErrArg, func(p *api.Pos) { p.Castle = 16 }},
		{api.ErrArg, func(p *api.Pos) { p.Castle = -1 }},
		{api.ErrArg, func(p *api.Pos) { p.Ep = -2 }},
		{api.ErrArg, func(p *api.Pos) { p.Ep = 64 }},
		{api.ErrTouch, func(p *api.Pos) { p.At[51] = 1 }},
		{api.ErrTouch, func(p *api.Pos) { p.At[60], p.At[11], p.Castle = 0, -6, 3 }},
		{api.ErrCastle, func(p *api.Pos) { p.At[56] = 0 }},
		{api.ErrPassant, func(p *api.Pos) { p.Ep = 44 }},
		{api.ErrPassant, func(p *api.Pos) { p.At[51] = -2 }},
	} {
		q := p
		c.spoil(&q)
		if e := pos.Wrong(q); e != c.want {
			t.Error("spoilt", i, e)
		}
		met[c.want] = true
		nothing(t, q, c.want)
	}
	for _, e := range []api.Errno{api.ErrArg, api.ErrKings, api.ErrPawns, api.ErrMen, api.ErrTouch, api.ErrCastle, api.ErrPassant} {
		if !met[e] {
			t.Error("not met", e)
		}
	}
}

// nothing asks all of a position of which nothing is told but an error.
func nothing(t *testing.T, p api.Pos, want api.Errno) {
	t.Helper()
	for _, length := range append([]int{0, 1, 2, 8}, noLengths...) {
		for _, budget := range budgets {
			if n, e := Count(p, length, budget); n != 0 || e != want {
				t.Error("Count", show(p), length, budget, n, e, "not", want)
			}
		}
		for _, most := range append([]int{0, 1, 20, 10000}, noMosts...) {
			if paths, e := All(p, length, most); len(paths) != 0 || e != want {
				t.Error("All", show(p), length, most, len(paths), e, "not", want)
			}
		}
	}
	for _, moves := range [][]api.Move{nil, {}, path("e1g1"), path("e5d6 e8g8"), path("e1e1"), path("e1e2 e8e8"), {{From: -1, To: 64, Promo: 9}}, {{}}} {
		if q, e := End(p, moves); q != (api.Pos{}) || e != want {
			t.Error("End", show(p), moves, show(q), e, "not", want)
		}
	}
}

// spoilt writes over a list, spare room included.
func spoilt[T any](list []T, by T) {
	whole := list[:cap(list)]
	for i := range whole {
		whole[i] = by
	}
}

// R4: what is answered is new memory, spare room included, and no two paths of one answer share any; R5: what was asked ahead changes no answer.
func TestAnswersAreNew(t *testing.T) {
	for _, p := range named(t) {
		for length := range 3 {
			kept := p
			many, _ := Count(p, length, 10000)
			first, _ := All(p, length, 10000)
			second, _ := All(p, length, 10000)
			want := make([][]api.Move, len(first))
			for i, path := range first {
				want[i] = slices.Clone(path)
			}
			for i, path := range first {
				spoilt(path, api.Move{From: -9, To: -9, Promo: -9})
				if i+1 < len(first) && !same(first[i+1:], want[i+1:]) {
					t.Fatal("paths share memory", show(p), length, i)
				}
			}
			spoilt(first, []api.Move{{From: -9}})
			third, _ := All(p, length, 10000)
			if !same(second, want) || !same(third, want) {
				t.Error("answers share memory", show(p), length)
			}
			if n, e := Count(p, length, 10000); n != many || n != len(want) || e != api.OK || p != kept {
				t.Error("again", show(p), length, n, e)
			}
		}
	}
	moves := make([]api.Move, 2, 5)
	copy(moves, path("e2e4 e7e5"))
	End(pos.First(), moves)
	Less(moves, moves[:1])
	if whole := moves[:5]; !slices.Equal(whole, append(path("e2e4 e7e5"), api.Move{}, api.Move{}, api.Move{})) {
		t.Error("written into", whole)
	}
}
