package legal

import (
	"fmt"
	"math"
	"slices"
	"strings"
	"testing"

	"alfil/api"
	"alfil/forsyth"
	"alfil/gen"
	"alfil/move"
	"alfil/pos"
)

// noSquares are numbers that are none; some of them would be one if they were cut to fewer bits, or their sign were lost.
var noSquares = []int{-1, -2, -4, -12, -63, -64, 64, 65, 68, 127, 128, 255, 256, 256 + 4, 1<<16 + 12, 1 << 32, 1<<32 + 4, 1<<32 - 1, math.MinInt32, math.MaxInt32, math.MinInt + 1, math.MinInt, math.MaxInt - 1, math.MaxInt}

// noPromos are numbers that nothing turns into; some of them would be a man if they were cut to fewer bits, or their sign were lost.
var noPromos = []int{-1, -2, -3, -4, -5, -6, -7, 1, 6, 7, 8, 13, 256, 256 + 5, 1<<16 + 5, 1 << 32, 1<<32 + 5, math.MinInt32, math.MaxInt32, math.MinInt + 1, math.MinInt, math.MaxInt - 1, math.MaxInt}

// place is the number of a square's name, found by its signs' places.
func place(name string) int {
	return strings.IndexByte("12345678", name[1])*8 + strings.IndexByte("abcdefgh", name[0])
}

// places are those of names between blanks.
func places(names string) []int {
	var out []int
	for _, name := range strings.Fields(names) {
		out = append(out, place(name))
	}
	return out
}

// at is a position of a Forsyth text; ep is a square's name, or "-".
func at(t *testing.T, text string, turn, castle int, ep string) api.Pos {
	t.Helper()
	b, _, e := forsyth.Read(text)
	if e != api.OK {
		t.Fatal(text, e)
	}
	s := -1
	if ep != "-" && ep != "" {
		s = place(ep)
	}
	return api.Pos{At: b, Turn: turn, Castle: castle, Ep: s}
}

// of is the move of two names and a letter, of which none need be a move's.
func of(text string) api.Move {
	m := api.Move{From: place(text[:2]), To: place(text[2:4])}
	if len(text) > 4 {
		m.Promo = strings.IndexByte("?pnbrqk", text[4])
	}
	return m
}

// told are the moves of texts between blanks; one that ends on * turns into each of the four men.
func told(texts string) []api.Move {
	var out []api.Move
	for _, text := range strings.Fields(texts) {
		if whole, each := strings.CutSuffix(text, "*"); each {
			out = append(out, of(whole+"q"), of(whole+"r"), of(whole+"b"), of(whole+"n"))
			continue
		}
		out = append(out, of(text))
	}
	return out
}

// mirrored is a position as the other side sees it, put together rank by rank.
func mirrored(p api.Pos) api.Pos {
	q := api.Pos{Turn: 1 - p.Turn, Castle: p.Castle%4*4 + p.Castle/4, Ep: -1}
	for s, m := range p.At {
		q.At[s^56] = -m
	}
	if p.Ep >= 0 {
		q.Ep = p.Ep ^ 56
	}
	return q
}

func mirroredMove(m api.Move) api.Move {
	return api.Move{From: m.From ^ 56, To: m.To ^ 56, Promo: m.Promo}
}

func mirroredAll(moves []api.Move) []api.Move {
	var out []api.Move
	for _, m := range moves {
		out = append(out, mirroredMove(m))
	}
	inOrder(out)
	return out
}

// comesFirst is the order of moves, asked part by part.
func comesFirst(a, b api.Move) bool {
	if a.From != b.From {
		return a.From < b.From
	}
	if a.To != b.To {
		return a.To < b.To
	}
	return a.Promo > b.Promo
}

// inOrder sorts, one by one.
func inOrder(moves []api.Move) {
	for i := range moves {
		for j := i; j > 0 && comesFirst(moves[j], moves[j-1]); j-- {
			moves[j], moves[j-1] = moves[j-1], moves[j]
		}
	}
}

// show is a position, short enough to be read where a test fails.
func show(p api.Pos) string {
	text, _ := forsyth.Write(p.At)
	return fmt.Sprint(text, " ", p.Turn, p.Castle, p.Ep)
}

// texts are moves, likewise.
func texts(moves []api.Move) string {
	var out []string
	for _, m := range moves {
		out = append(out, move.Text(m))
	}
	return strings.Join(out, " ")
}

// right fails where a position that a test wants to be right isn't.
func right(t *testing.T, p api.Pos) {
	t.Helper()
	if e := pos.Wrong(p); e != api.OK {
		t.Fatal("right", show(p), e)
	}
}

// from are the legal moves from a square.
func from(p api.Pos, s int) []api.Move {
	var out []api.Move
	for _, m := range New().Moves(p) {
		if m.From == s {
			out = append(out, m)
		}
	}
	return out
}

// plays asks whether a move is legal, and for the position behind it.
func plays(t *testing.T, p api.Pos, m api.Move) {
	t.Helper()
	r := New()
	if !r.Legal(p, m) || !slices.Contains(r.Moves(p), m) {
		t.Error("legal", show(p), m)
	}
	q, e := r.Play(p, m)
	behind, _ := move.Make(p, m)
	if e != api.OK || q != behind || pos.Wrong(q) != api.OK {
		t.Error("Play", show(p), m, show(q), e)
	}
}

// refused asks for a move that isn't legal, in a right position.
func refused(t *testing.T, p api.Pos, m api.Move) {
	t.Helper()
	r := New()
	if r.Legal(p, m) || slices.Contains(r.Moves(p), m) {
		t.Error("refused", show(p), m)
	}
	if q, e := r.Play(p, m); e != api.ErrArg || q != (api.Pos{}) {
		t.Error("Play", show(p), m, show(q), e)
	}
}

// nothing asks all of a position of which nothing is told but an error; whether who is to move is in check is asked elsewhere.
func nothing(t *testing.T, r *Rules, p api.Pos, want api.Errno) {
	t.Helper()
	if moves := r.Moves(p); len(moves) != 0 {
		t.Error("Moves", show(p), texts(moves))
	}
	if flights := r.Flights(p); len(flights) != 0 {
		t.Error("Flights", show(p), flights)
	}
	if r.Mate(p) || r.Stale(p) {
		t.Error("Mate, Stale", show(p), r.Mate(p), r.Stale(p))
	}
	moves := told("e1e2 e1g1 e1c1 e8e7 e8g8 e8c8 a1a2 h1h2 a1a1 e2e4 e2e3 d2d4 e7e5 e5d6 g1f3 b1a3 a7a8q a7b8n")
	for _, n := range noSquares {
		moves = append(moves, api.Move{From: n, To: 12}, api.Move{From: 4, To: n}, api.Move{From: n, To: n})
	}
	for _, m := range moves {
		if r.Legal(p, m) {
			t.Error("Legal", show(p), m)
		}
		if q, e := r.Play(p, m); e != want || q != (api.Pos{}) {
			t.Error("Play", show(p), m, show(q), e, "not", want)
		}
	}
}

// goes is a position, with the legal moves from a square, told by hand, in order.
type goes struct {
	text         string
	turn, castle int
	ep           string
	from, want   string
}

// ask asks for the legal moves from the square, for each that a man goes from there whether it is legal, and the same of the mirrored position.
func (c goes) ask(t *testing.T) {
	t.Helper()
	p := at(t, c.text, c.turn, c.castle, c.ep)
	s := place(c.from)
	askFrom(t, p, s, told(c.want))
	askFrom(t, mirrored(p), s^56, mirroredAll(told(c.want)))
}

func askFrom(t *testing.T, p api.Pos, s int, want []api.Move) {
	t.Helper()
	right(t, p)
	if got := from(p, s); !slices.Equal(got, want) {
		t.Error("Moves", show(p), s, texts(got), "not", texts(want))
	}
	for _, m := range want {
		plays(t, p, m)
	}
	for _, m := range gen.New().From(p, s) {
		if !slices.Contains(want, m) {
			refused(t, p, m)
		}
	}
}

// whole is a position with all its legal moves, told by hand, in order, whether who is to move is in check, and the king's flights.
type whole struct {
	text           string
	turn, castle   int
	ep             string
	moves, flights string
	check          bool
}

func (c whole) ask(t *testing.T) {
	t.Helper()
	p := at(t, c.text, c.turn, c.castle, c.ep)
	moves, flights := told(c.moves), places(c.flights)
	askWhole(t, p, moves, flights, c.check)
	var turned []int
	for _, s := range flights {
		turned = append(turned, s^56)
	}
	slices.Sort(turned)
	askWhole(t, mirrored(p), mirroredAll(moves), turned, c.check)
}

func askWhole(t *testing.T, p api.Pos, moves []api.Move, flights []int, check bool) {
	t.Helper()
	right(t, p)
	r := New()
	if got := r.Moves(p); !slices.Equal(got, moves) {
		t.Error("Moves", show(p), texts(got), "not", texts(moves))
	}
	if got := r.Flights(p); !slices.Equal(got, flights) {
		t.Error("Flights", show(p), got, "not", flights)
	}
	if r.Check(p) != check {
		t.Error("Check", show(p), !check)
	}
	stuck := len(moves) == 0
	if r.Mate(p) != (stuck && check) || r.Stale(p) != (stuck && !check) {
		t.Error("Mate, Stale", show(p), r.Mate(p), r.Stale(p))
	}
	for _, m := range moves {
		plays(t, p, m)
	}
	for _, m := range gen.New().All(p) {
		if !slices.Contains(moves, m) {
			refused(t, p, m)
		}
	}
}

// P11.1: the first position's twenty moves, and Black's; nobody is mate.
func TestFirst(t *testing.T) {
	r, p := New(), pos.First()
	white := told("b1a3 b1c3 g1f3 g1h3 a2a3 a2a4 b2b3 b2b4 c2c3 c2c4 d2d3 d2d4 e2e3 e2e4 f2f3 f2f4 g2g3 g2g4 h2h3 h2h4")
	askWhole(t, p, white, nil, false)
	if len(r.Moves(p)) != 20 || r.Mate(p) || r.Stale(p) {
		t.Error("first", texts(r.Moves(p)))
	}
	black := told("a7a5 a7a6 b7b5 b7b6 c7c5 c7c6 d7d5 d7d6 e7e5 e7e6 f7f5 f7f6 g7g5 g7g6 h7h5 h7h6 b8a6 b8c6 g8f6 g8h6")
	p.Turn = 1
	askWhole(t, p, black, nil, false)
}

// P11.1: positions behind moves, by hand: pawns that go two squares, castle, take in passing, turn into something.
func TestPlay(t *testing.T) {
	for _, c := range []struct {
		text             string
		turn, castle     int
		ep, m, want      string
		wantCastle, last int
	}{
		{"rnbqkbnr/pppppppp/8/8/8/8/PPPPPPPP/RNBQKBNR", 0, 15, "-", "e2e4", "rnbqkbnr/pppppppp/8/8/4P3/8/PPPP1PPP/RNBQKBNR", 15, 20},
		{"rnbqkbnr/pppppppp/8/8/8/8/PPPPPPPP/RNBQKBNR", 0, 15, "-", "g1f3", "rnbqkbnr/pppppppp/8/8/8/5N2/PPPPPPPP/RNBQKB1R", 15, -1},
		{"r3k2r/8/8/8/8/8/8/R3K2R", 0, 15, "-", "e1g1", "r3k2r/8/8/8/8/8/8/R4RK1", 12, -1},
		{"r3k2r/8/8/8/8/8/8/R3K2R", 0, 15, "-", "e1c1", "r3k2r/8/8/8/8/8/8/2KR3R", 12, -1},
		{"r3k2r/8/8/8/8/8/8/R3K2R", 1, 15, "-", "e8g8", "r4rk1/8/8/8/8/8/8/R3K2R", 3, -1},
		{"r3k2r/8/8/8/8/8/8/R3K2R", 1, 15, "-", "e8c8", "2kr3r/8/8/8/8/8/8/R3K2R", 3, -1},
		{"r3k2r/8/8/8/8/8/8/R3K2R", 0, 15, "-", "h1h8", "r3k2R/8/8/8/8/8/8/R3K3", 10, -1},
		{"4k3/8/8/3pP3/8/8/8/4K3", 0, 0, "d6", "e5d6", "4k3/8/3P4/8/8/8/8/4K3", 0, -1},
		{"4k3/8/8/8/3Pp3/8/8/4K3", 1, 0, "d3", "e4d3", "4k3/8/8/8/8/3p4/8/4K3", 0, -1},
		{"1n2k3/P7/8/8/8/8/8/4K3", 0, 0, "-", "a7b8n", "1N2k3/8/8/8/8/8/8/4K3", 0, -1},
		{"4k3/8/8/8/8/8/p7/4K3", 1, 0, "-", "a2a1q", "4k3/8/8/8/8/8/8/q3K3", 0, -1},
	} {
		p := at(t, c.text, c.turn, c.castle, c.ep)
		want := at(t, c.want, 1-c.turn, c.wantCastle, "-")
		want.Ep = c.last
		plays(t, p, of(c.m))
		if q, e := New().Play(p, of(c.m)); q != want || e != api.OK {
			t.Error("Play", show(p), c.m, show(q), e)
		}
	}
}

// P11.1, P11.2: whole positions with men of every kind, in check and not; the same for the other side by the mirror.
func TestWhole(t *testing.T) {
	for _, c := range []whole{
		{text: "4k3/8/8/8/8/8/8/4K3", moves: "e1d1 e1f1 e1d2 e1e2 e1f2", flights: "d1 f1 d2 e2 f2"},
		{text: "4k3/8/8/8/8/8/8/4K3", turn: 1, moves: "e8d7 e8e7 e8f7 e8d8 e8f8", flights: "d7 e7 f7 d8 f8"},
		// The kings keep apart.
		{text: "8/8/8/8/8/k7/8/K7", moves: "a1b1", flights: "b1"},
		{text: "8/8/8/8/3k4/8/3K4/8", moves: "d2c1 d2d1 d2e1 d2c2 d2e2", flights: "c1 d1 e1 c2 e2"},
		// A knight, a bishop, a rook, a queen, and pawns.
		{text: "7k/8/8/8/8/8/PP6/KN6", moves: "b1d2 b1a3 b1c3 a2a3 a2a4 b2b3 b2b4"},
		{text: "7k/8/8/8/8/pp6/8/KB6", moves: "b1a2 b1c2 b1d3 b1e4 b1f5 b1g6 b1h7"},
		{text: "7k/8/8/8/8/1p6/1p6/KR6", moves: "a1b2 b1b2", flights: "b2", check: true},
		{text: "k7/8/8/8/8/8/6pp/6QK", moves: "g1g2 h1g2 h1h2", flights: "g2 h2", check: true},
		{text: "6k1/8/8/8/8/8/1r6/K1q4Q", moves: "h1c1", check: true},
	} {
		c.ask(t)
	}
}

// P11.1: a man that may not leave its line, as its king would be in check behind it, and one that may go along it; men that stand in line with their king, and aren't held.
func TestHeld(t *testing.T) {
	for _, c := range []goes{
		{text: "4k3/4r3/8/8/8/4N3/8/4K3", from: "e3", want: ""},
		{text: "4k3/8/8/8/8/8/8/r2NK3", from: "d1", want: ""},
		{text: "4k3/8/8/8/8/8/8/1K1N3q", from: "d1", want: ""},
		{text: "4k3/8/8/8/7b/8/5N2/4K3", from: "f2", want: ""},
		{text: "4k3/4r3/8/8/4R3/8/8/4K3", from: "e4", want: "e4e2 e4e3 e4e5 e4e6 e4e7"},
		{text: "4k3/8/8/8/8/8/8/r1R1K3", from: "c1", want: "c1a1 c1b1 c1d1"},
		{text: "4k3/8/8/8/1b6/8/3B4/4K3", from: "d2", want: "d2c3 d2b4"},
		{text: "4k3/8/8/7b/8/8/8/3BK3", from: "d1", want: "d1c2 d1e2 d1b3 d1f3 d1a4 d1g4 d1h5"},
		{text: "4k3/8/8/8/7q/8/5B2/4K3", from: "f2", want: "f2g3 f2h4"},
		{text: "4k3/4q3/8/8/8/8/4Q3/4K3", from: "e2", want: "e2e3 e2e4 e2e5 e2e6 e2e7"},
		{text: "4k3/8/8/8/1q6/8/3Q4/4K3", from: "d2", want: "d2c3 d2b4"},
		{text: "4k3/4r3/8/8/8/8/4B3/4K3", from: "e2", want: ""},
		{text: "4k3/8/8/8/1b6/8/3R4/4K3", from: "d2", want: ""},
		// Pawns: held by a file they go on along it; from the side they don't, but that they take who holds them.
		{text: "4k3/4r3/8/8/8/8/4P3/4K3", from: "e2", want: "e2e3 e2e4"},
		{text: "4k3/4r3/8/8/8/3p1p2/4P3/4K3", from: "e2", want: "e2e3 e2e4"},
		{text: "4k3/8/8/8/7b/8/5P2/4K3", from: "f2", want: ""},
		{text: "4k3/8/8/8/8/6b1/5P2/4K3", from: "f2", want: "f2g3"},
		{text: "4k3/8/8/8/8/4n1b1/5P2/4K3", from: "f2", want: "f2g3"},
		{text: "4k3/8/8/8/8/8/K2P3r/8", from: "d2", want: ""},
		// Not held: another man between, of either side; who stands behind doesn't slide that way; who stands there is of its own side.
		{text: "4k3/4r3/8/4P3/8/4N3/8/4K3", from: "e3", want: "e3d1 e3f1 e3c2 e3g2 e3c4 e3g4 e3d5 e3f5"},
		{text: "4k3/4r3/8/4p3/8/4N3/8/4K3", from: "e3", want: "e3d1 e3f1 e3c2 e3g2 e3c4 e3g4 e3d5 e3f5"},
		{text: "4k3/4r3/8/8/8/4N3/4P3/4K3", from: "e3", want: "e3d1 e3f1 e3c2 e3g2 e3c4 e3g4 e3d5 e3f5"},
		{text: "4k3/4b3/8/8/8/4N3/8/4K3", from: "e3", want: "e3d1 e3f1 e3c2 e3g2 e3c4 e3g4 e3d5 e3f5"},
		{text: "7k/4R3/8/8/8/4N3/8/4K3", from: "e3", want: "e3d1 e3f1 e3c2 e3g2 e3c4 e3g4 e3d5 e3f5"},
		{text: "4k3/8/8/8/7r/8/5N2/4K3", from: "f2", want: "f2d1 f2h1 f2d3 f2h3 f2e4 f2g4"},
		{text: "4k3/8/8/8/8/6p1/5N2/4K3", from: "f2", want: "f2d1 f2h1 f2d3 f2h3 f2e4 f2g4"},
		// Off every line of the king's.
		{text: "4k3/8/8/8/r2N3r/8/8/1K6", from: "d4", want: "d4c2 d4e2 d4b3 d4f3 d4b5 d4f5 d4c6 d4e6"},
	} {
		c.ask(t)
	}
}

// P11.1, P11.2: a king that may not go to a struck square, also behind itself on the line of who gives check, nor take a man that is backed; one that takes who isn't.
func TestKing(t *testing.T) {
	for _, c := range []whole{
		{text: "3rkr2/8/8/8/8/8/8/4K3", moves: "e1e2", flights: "e2"},
		{text: "4k3/8/8/8/8/8/8/r3K3", moves: "e1d2 e1e2 e1f2", flights: "d2 e2 f2", check: true},
		{text: "4k3/8/8/1b6/8/8/3K4/8", moves: "d2c1 d2d1 d2e1 d2c2 d2c3 d2e3", flights: "c1 d1 e1 c2 c3 e3"},
		{text: "4k3/8/8/b7/8/8/3K4/8", moves: "d2c1 d2d1 d2c2 d2e2 d2d3 d2e3", flights: "c1 d1 c2 e2 d3 e3", check: true},
		// A knight's squares, a pawn's, which strikes aside and not ahead.
		{text: "4k3/8/8/8/8/3n4/8/4K3", moves: "e1d1 e1f1 e1d2 e1e2", flights: "d1 f1 d2 e2", check: true},
		{text: "4k3/8/8/8/8/4p3/8/4K3", moves: "e1d1 e1f1 e1e2", flights: "d1 f1 e2"},
		{text: "4k3/8/8/8/8/8/4p3/4K3", moves: "e1d2 e1e2 e1f2", flights: "d2 e2 f2"},
		// Takings: alone, and backed by each kind of man.
		{text: "4k3/8/8/8/8/8/4q3/4K3", moves: "e1e2", flights: "e2", check: true},
		{text: "4k3/8/8/8/8/8/4n3/4K3", moves: "e1d1 e1f1 e1d2 e1e2 e1f2", flights: "d1 f1 d2 e2 f2"},
		{text: "4k3/8/8/8/8/5p2/4q3/4K3", check: true},
		{text: "4k3/8/8/8/3n4/8/4q3/4K3", check: true},
		{text: "4k3/8/8/1b6/8/8/4q3/4K3", check: true},
		{text: "4k3/4r3/8/8/8/8/4q3/4K3", check: true},
		{text: "8/8/8/8/8/3k4/4q3/4K3", check: true},
		{text: "4k3/8/8/8/8/8/q3q3/4K3", check: true},
		// Who backs is held itself, and strikes for all that.
		{text: "3k4/8/8/8/8/3r2q1/7K/3R4", moves: "h2h1", flights: "h1", check: true},
	} {
		c.ask(t)
	}
}

// P11.1, P11.2: check by one man, which is taken, or blocked, or fled from; check by two men at once, from which the king alone gets away.
func TestAgainstCheck(t *testing.T) {
	for _, c := range []whole{
		// A rook far off: the bishop blocks, the knight takes it, and blocks.
		{text: "4k3/8/8/8/8/2N2B2/8/r3K3", moves: "e1d2 e1e2 e1f2 c3b1 c3d1 f3d1", flights: "d2 e2 f2", check: true},
		{text: "4k3/8/8/8/8/1N6/8/r3K3", moves: "e1d2 e1e2 e1f2 b3a1 b3c1", flights: "d2 e2 f2", check: true},
		// A knight can't be blocked, nor can who stands beside the king.
		{text: "4k3/8/8/8/5B2/3n4/1P6/4K3", moves: "e1d1 e1f1 e1d2 e1e2", flights: "d1 f1 d2 e2", check: true},
		{text: "4k3/8/8/8/8/3n4/2P5/4K3", moves: "e1d1 e1f1 e1d2 e1e2 c2d3", flights: "d1 f1 d2 e2", check: true},
		{text: "4k3/8/8/8/8/5p2/4q2R/4K3", moves: "h2e2", check: true},
		// Pawns block by one square and by two, and take.
		{text: "4k3/8/8/8/K6r/8/3P2P1/8", moves: "d2d4 g2g4 a4a3 a4b3 a4a5 a4b5", flights: "a3 b3 a5 b5", check: true},
		{text: "4k3/8/8/8/8/K6r/3P2P1/8", moves: "d2d3 g2g3 g2h3 a3a2 a3b2 a3a4 a3b4", flights: "a2 b2 a4 b4", check: true},
		// Who would block or take is held.
		{text: "4k3/4r3/8/8/8/8/4N3/2b1K2r", moves: "e1f2", flights: "f2", check: true},
		{text: "4k3/4r3/8/8/8/4R3/8/r3K3", moves: "e1d2 e1e2 e1f2", flights: "d2 e2 f2", check: true},
		// Two at once: nobody takes the one and blocks the other.
		{text: "4k3/4r3/8/8/7b/8/8/N3K2R", moves: "e1d1 e1f1 e1d2", flights: "d1 f1 d2", check: true},
		{text: "4k3/4r3/Q7/8/8/3n4/8/4K3", moves: "e1d1 e1f1 e1d2", flights: "d1 f1 d2", check: true},
		{text: "4k3/4r3/8/8/8/5n2/4R1P1/4K3", moves: "e1d1 e1f1 e1f2 g2f3", flights: "d1 f1 f2", check: true},
		{text: "4k3/8/8/8/8/8/3rr3/4K2R", moves: "e1f1", flights: "f1", check: true},
	} {
		c.ask(t)
	}
}

// P11.1: a pawn that takes in passing, and so uncovers its king, along a rank, a file, or a slant line, by leaving its own square or by what it takes; one that doesn't.
func TestPassing(t *testing.T) {
	for _, c := range []goes{
		{text: "4k3/8/8/3pP3/8/8/8/4K3", ep: "d6", from: "e5", want: "e5d6 e5e6"},
		{text: "4k3/8/8/3pP3/8/8/8/4K3", ep: "-", from: "e5", want: "e5e6"},
		// Along a rank both pawns are gone; the king on either side of them.
		{text: "7k/8/8/K2pP2r/8/8/8/8", ep: "d6", from: "e5", want: "e5e6"},
		{text: "k7/8/8/r2pP2K/8/8/8/8", ep: "d6", from: "e5", want: "e5e6"},
		{text: "7k/8/8/K1Pp3q/8/8/8/8", ep: "d6", from: "c5", want: "c5c6"},
		{text: "7k/8/8/K2pP2b/8/8/8/8", ep: "d6", from: "e5", want: "e5d6 e5e6"},
		{text: "7k/8/8/KN1pP2r/8/8/8/8", ep: "d6", from: "e5", want: "e5d6 e5e6"},
		{text: "7k/8/8/K2pPp1r/8/8/8/8", ep: "d6", from: "e5", want: "e5d6 e5e6"},
		{text: "7k/8/8/K1PpP2r/8/8/8/8", ep: "d6", from: "e5", want: "e5d6 e5e6"},
		// A slant line through what is taken, and through the pawn's own square.
		{text: "6bk/8/8/3pP3/8/8/8/K7", ep: "d6", from: "e5", want: "e5d6 e5e6"},
		{text: "6b1/8/7k/3pP3/2K5/8/8/8", ep: "d6", from: "e5", want: ""},
		{text: "k5b1/8/8/3pP3/8/1K6/8/8", ep: "d6", from: "e5", want: "e5e6"},
		{text: "k7/6b1/8/3pP3/3K4/8/8/8", ep: "d6", from: "e5", want: ""},
		{text: "k7/2b5/8/3pP3/5K2/8/8/8", ep: "d6", from: "e5", want: "e5d6"},
		// A file: the pawn's own is opened; that of what is taken is closed again at once.
		{text: "k3r3/8/8/3pP3/8/8/8/4K3", ep: "d6", from: "e5", want: "e5e6"},
		{text: "k2r4/8/8/3pP3/8/8/8/3K4", ep: "d6", from: "e5", want: "e5d6 e5e6"},
		{text: "k2r4/8/8/3pP3/8/8/3R4/3K4", ep: "d6", from: "e5", want: "e5d6 e5e6"},
		// Black's, along a rank, by hand.
		{text: "8/8/8/8/k2Pp2R/8/8/4K3", turn: 1, ep: "d3", from: "e4", want: "e4e3"},
		{text: "8/8/8/8/k2Pp2B/8/8/4K3", turn: 1, ep: "d3", from: "e4", want: "e4d3 e4e3"},
		// Other men that go to Ep uncover nothing, or what they uncover for themselves.
		{text: "7k/8/8/K2pR2r/8/B7/8/8", ep: "d6", from: "a3", want: "a3c1 a3b2 a3b4 a3c5 a3d6 a3e7 a3f8"},
		{text: "7k/8/4R3/K2p3r/8/8/8/8", ep: "d6", from: "e6", want: "e6e1 e6e2 e6e3 e6e4 e6e5 e6a6 e6b6 e6c6 e6d6 e6f6 e6g6 e6h6 e6e7 e6e8"},
	} {
		c.ask(t)
	}
}

// P11.1: a pawn that took two squares, gave check and is taken in passing; one that blocks by taking in passing; one that may not, as another man gives check.
func TestPassingAgainstCheck(t *testing.T) {
	for _, c := range []whole{
		{text: "7k/8/8/1Pp5/3K4/8/8/8", ep: "c6", moves: "d4c3 d4d3 d4e3 d4c4 d4e4 d4c5 d4d5 d4e5 b5c6", flights: "c3 d3 e3 c4 e4 c5 d5 e5", check: true},
		{text: "7k/8/8/1Pp5/3K4/8/8/8", moves: "d4c3 d4d3 d4e3 d4c4 d4e4 d4c5 d4d5 d4e5", flights: "c3 d3 e3 c4 e4 c5 d5 e5", check: true},
		// The one answer to check is to take in passing; without that it is mate.
		{text: "7k/8/1p6/1Ppp4/1K6/r7/r7/8", ep: "c6", moves: "b5c6", check: true},
		{text: "7k/8/1p6/1Ppp4/1K6/r7/r7/8", check: true},
		// What is taken stands on a slant line of the king's; so does Ep.
		{text: "q6k/8/8/2PpP3/8/8/6K1/8", ep: "d6", moves: "g2f1 g2g1 g2h1 g2f2 g2h2 g2f3 g2g3 g2h3 c5c6 e5e6", flights: "f1 g1 h1 f2 h2 f3 g3 h3"},
		{text: "5b1k/8/8/3pP3/8/K7/8/8", ep: "d6", moves: "a3a2 a3b2 a3b3 a3a4 e5d6", flights: "a2 b2 b3 a4", check: true},
		{text: "7k/8/8/3pP3/8/8/8/r6K", ep: "d6", moves: "h1g2 h1h2", flights: "g2 h2", check: true},
	} {
		c.ask(t)
	}
}

// P11.1: pawns that turn into each of the four men, with check and against it, and held ones.
func TestPromos(t *testing.T) {
	for _, c := range []goes{
		{text: "1n5k/P7/8/8/8/8/8/4K3", from: "a7", want: "a7a8* a7b8*"},
		// Against check: they block, and take who gives it.
		{text: "K6r/1P4P1/8/8/8/8/8/7k", from: "b7", want: "b7b8*"},
		{text: "K6r/1P4P1/8/8/8/8/8/7k", from: "g7", want: "g7g8* g7h8*"},
		{text: "7k/P7/8/8/8/8/4r3/4K3", from: "a7", want: ""},
		// Held: along the rank ahead of which they stand, along a slant line, along their file.
		{text: "7k/1K2P2r/8/8/8/8/8/8", from: "e7", want: ""},
		{text: "5K2/4P3/8/8/8/b7/8/7k", from: "e7", want: ""},
		{text: "5b2/4P3/8/2K5/8/8/8/7k", from: "e7", want: "e7f8*"},
		{text: "5b2/4P3/3K4/8/8/8/8/7k", from: "e7", want: "e7f8*"},
		{text: "3n1b2/4P3/3K4/8/8/8/8/7k", from: "e7", want: "e7f8*"},
		{text: "3nrn2/4P3/4K3/8/8/8/8/7k", from: "e7", want: ""},
		{text: "4k3/8/8/8/8/8/1p6/N1R1K3", turn: 1, from: "b2", want: "b2a1* b2b1* b2c1*"},
		{text: "8/8/8/8/7K/8/4p1k1/8", turn: 1, from: "e2", want: "e2e1*"},
	} {
		c.ask(t)
	}
	// Each of the four, with check where it strikes the king.
	for m, check := range map[string][2]bool{
		"e7e8q": {true, false}, "e7e8r": {true, false}, "e7e8b": {false, false}, "e7e8n": {false, true},
	} {
		for i, text := range []string{"k7/4P3/8/8/8/8/8/K7", "8/2k1P3/8/8/8/8/8/K7"} {
			p := at(t, text, 0, 0, "-")
			behind, e := New().Play(p, of(m))
			turned, again := New().Play(mirrored(p), mirroredMove(of(m)))
			if e != api.OK || again != api.OK || New().Check(behind) != check[i] || New().Check(turned) != check[i] {
				t.Error("check", text, m, e, again)
			}
		}
	}
	p := at(t, "1n5k/P7/8/8/8/8/6P1/4K3", 0, 0, "-")
	for _, text := range []string{"a7a8", "a7b8", "a7a8p", "a7a8k", "a7b8p", "a7b8k", "a7c8q", "a7a6", "g2g3q", "g2g4n", "g2g8q", "e1e2q", "e1d1k"} {
		refused(t, p, of(text))
		refused(t, mirrored(p), mirroredMove(of(text)))
	}
	for _, n := range noPromos {
		for _, text := range []string{"a7a8", "a7b8", "g2g3", "e1e2"} {
			m := of(text)
			m.Promo = n
			refused(t, p, m)
		}
	}
}

// P11.1, P11.2: castling to either side by either side: while in check, over a struck square, to one, with the rook's own square or the one beside it struck alone; behind a move of king or rook.
func TestCastling(t *testing.T) {
	const near = "e1d1 e1f1 e1d2 e1e2 e1f2"
	const both = "e1c1 e1d1 e1f1 e1g1 e1d2 e1e2 e1f2"
	for _, c := range []goes{
		{text: "r3k2r/8/8/8/8/8/8/R3K2R", castle: 15, from: "e1", want: both},
		{text: "r3k2r/8/8/8/8/8/8/R3K2R", castle: 1, from: "e1", want: "e1d1 e1f1 e1g1 e1d2 e1e2 e1f2"},
		{text: "r3k2r/8/8/8/8/8/8/R3K2R", castle: 2, from: "e1", want: "e1c1 e1d1 e1f1 e1d2 e1e2 e1f2"},
		{text: "r3k2r/8/8/8/8/8/8/R3K2R", castle: 12, from: "e1", want: near},
		{text: "r3k2r/8/8/8/8/8/8/R3K2R", castle: 0, from: "e1", want: near},
		{text: "r3k2r/8/8/8/8/8/8/R3K2R", turn: 1, castle: 15, from: "e8", want: "e8d7 e8e7 e8f7 e8c8 e8d8 e8f8 e8g8"},
		{text: "r3k2r/8/8/8/8/8/8/R3K2R", turn: 1, castle: 4, from: "e8", want: "e8d7 e8e7 e8f7 e8d8 e8f8 e8g8"},
		{text: "r3k2r/8/8/8/8/8/8/R3K2R", turn: 1, castle: 8, from: "e8", want: "e8d7 e8e7 e8f7 e8c8 e8d8 e8f8"},
		// In check, by each kind of man.
		{text: "4k3/4r3/8/8/8/8/8/R3K2R", castle: 3, from: "e1", want: "e1d1 e1f1 e1d2 e1f2"},
		{text: "4k3/8/8/8/7b/8/8/R3K2R", castle: 3, from: "e1", want: "e1d1 e1f1 e1d2 e1e2"},
		{text: "4k3/8/8/8/8/3n4/8/R3K2R", castle: 3, from: "e1", want: "e1d1 e1f1 e1d2 e1e2"},
		{text: "4k3/8/8/8/8/8/3p4/R3K2R", castle: 3, from: "e1", want: "e1d1 e1f1 e1d2 e1e2 e1f2"},
		{text: "4k3/4q3/8/8/8/8/8/R3K2R", castle: 3, from: "e1", want: "e1d1 e1f1 e1d2 e1f2"},
		// The square that it passes is struck: f1, then d1.
		{text: "4kr2/8/8/8/8/8/8/R3K2R", castle: 3, from: "e1", want: "e1c1 e1d1 e1d2 e1e2"},
		{text: "4k3/8/b7/8/8/8/8/R3K2R", castle: 3, from: "e1", want: "e1c1 e1d1 e1d2 e1f2"},
		{text: "4k3/8/8/8/8/8/7n/R3K2R", castle: 3, from: "e1", want: "e1c1 e1d1 e1d2 e1e2 e1f2"},
		{text: "3rk3/8/8/8/8/8/8/R3K2R", castle: 3, from: "e1", want: "e1f1 e1g1 e1e2 e1f2"},
		{text: "4k3/8/8/8/b7/8/8/R3K2R", castle: 3, from: "e1", want: "e1f1 e1g1 e1d2 e1e2 e1f2"},
		{text: "4k3/8/8/8/8/8/1n6/R3K2R", castle: 3, from: "e1", want: "e1f1 e1g1 e1d2 e1e2 e1f2"},
		// The square to which it goes is struck: g1, then c1.
		{text: "4k1r1/8/8/8/8/8/8/R3K2R", castle: 3, from: "e1", want: "e1c1 e1d1 e1f1 e1d2 e1e2 e1f2"},
		{text: "4k3/8/8/8/8/8/7p/R3K2R", castle: 3, from: "e1", want: "e1c1 e1d1 e1f1 e1d2 e1e2 e1f2"},
		{text: "2r1k3/8/8/8/8/8/8/R3K2R", castle: 3, from: "e1", want: "e1d1 e1f1 e1g1 e1d2 e1e2 e1f2"},
		{text: "4k3/8/8/8/8/8/1p6/R3K2R", castle: 3, from: "e1", want: "e1d1 e1f1 e1g1 e1d2 e1e2 e1f2"},
		{text: "8/8/8/8/8/8/1k6/R3K2R", castle: 3, from: "e1", want: "e1d1 e1f1 e1g1 e1d2 e1e2 e1f2"},
		{text: "8/8/8/8/8/8/6k1/R3K2R", castle: 3, from: "e1", want: "e1c1 e1d1 e1d2 e1e2"},
		// Both.
		{text: "4k3/8/8/8/8/8/4p3/R3K2R", castle: 3, from: "e1", want: "e1d2 e1e2 e1f2"},
		{text: "4kr2/6r1/8/8/8/8/8/R3K2R", castle: 3, from: "e1", want: "e1c1 e1d1 e1d2 e1e2"},
		// The rook's own square alone, and b1, beside the one in the corner a1.
		{text: "4k2r/8/8/8/8/8/8/R3K2R", castle: 3, from: "e1", want: both},
		{text: "r3k3/8/8/8/8/8/8/R3K2R", castle: 3, from: "e1", want: both},
		{text: "1r2k3/8/8/8/8/8/8/R3K2R", castle: 3, from: "e1", want: both},
		{text: "4k3/8/8/8/8/n7/8/R3K2R", castle: 3, from: "e1", want: both},
		{text: "1r2k2r/r6b/8/8/8/8/8/R3K2R", castle: 3, from: "e1", want: both},
		// A man between.
		{text: "4k3/8/8/8/8/8/8/RN2KB1R", castle: 3, from: "e1", want: "e1d1 e1d2 e1e2 e1f2"},
		{text: "4k3/8/8/8/8/8/8/Rn2K1nR", castle: 3, from: "e1", want: "e1d1 e1f1 e1f2"},
	} {
		c.ask(t)
	}
}

// P11.1: castling behind moves of king, of either rook, and of others: what left its home doesn't castle, though it came back.
func TestCastlingLater(t *testing.T) {
	first := at(t, "r3k2r/p6p/8/8/8/8/P6P/R3K2R", 0, 15, "-")
	for _, c := range []struct {
		moves       string
		short, long bool
	}{
		{"a2a3 a7a6", true, true},
		{"e1e2 e8e7 e2e1 e7e8", false, false},
		{"h1g1 h8g8 g1h1 g8h8", false, true},
		{"a1b1 a8b8 b1a1 b8a8", true, false},
		{"h1g1 a8b8 g1h1 b8a8 a1b1 h8g8 b1a1 g8h8", false, false},
	} {
		for _, p := range []api.Pos{first, mirrored(first)} {
			begins := p.Turn
			for _, m := range told(c.moves) {
				if begins == 1 {
					m = mirroredMove(m)
				}
				q, e := New().Play(p, m)
				if e != api.OK {
					t.Fatal("Play", show(p), m, e)
				}
				p = q
			}
			short, long := of("e1g1"), of("e1c1")
			if begins == 1 {
				short, long = mirroredMove(short), mirroredMove(long)
			}
			if New().Legal(p, short) != c.short || New().Legal(p, long) != c.long {
				t.Error("castles", show(p), c.moves)
			}
		}
	}
	// A rook that is taken at home castles no more, nor does another one that comes there.
	p := at(t, "4k3/8/8/8/8/6n1/7R/4K2R", 1, 1, "-")
	for _, text := range []string{"g3h1", "h2h1", "e8d8"} {
		q, e := New().Play(p, of(text))
		if e != api.OK {
			t.Fatal("Play", show(p), text, e)
		}
		p = q
	}
	refused(t, p, of("e1g1"))
}

// P11.1, P11.2: mate and stalemate for either side; a king with no flight that isn't in check, or is and has help: neither.
func TestEnds(t *testing.T) {
	for _, c := range []whole{
		{text: "8/8/8/8/8/2k5/1q6/K7", check: true},
		{text: "8/8/8/8/8/1k6/8/K6r", check: true},
		{text: "R5k1/5ppp/8/8/8/8/8/6K1", turn: 1, check: true},
		{text: "6rk/5Npp/8/8/8/8/8/6K1", turn: 1, check: true},
		{text: "r1bqkb1r/pppp1Qpp/2n2n2/4p3/2B1P3/8/PPPP1PPP/RNB1K1NR", turn: 1, castle: 15, check: true},
		{text: "rnb1kbnr/pppp1ppp/8/4p3/6Pq/5P2/PPPPP2P/RNBQKBNR", castle: 15, check: true},
		// A rook at home doesn't help who is in check.
		{text: "4k3/8/8/8/8/5p2/4q3/4K2R", castle: 1, check: true},
		// Mate by two men at once, of which each alone could be taken.
		{text: "3qkb2/3p1p2/5N2/8/8/Q7/8/4R1K1", turn: 1, check: true},
		{text: "8/8/8/8/8/1k6/2q5/K7"},
		{text: "k7/P7/K7/8/8/8/8/8", turn: 1},
		{text: "7k/5K2/6Q1/8/8/8/8/8", turn: 1},
		{text: "5bnr/4p1pq/4Qpkr/7p/7P/4P3/PPPP1PP1/RNB1KBNR", turn: 1, castle: 3},
		// Who holds a man is taken by it.
		{text: "8/8/8/8/8/p1k5/P1q5/KB6", moves: "b1c2"},
		// No flight, and not in check; others go.
		{text: "8/8/8/8/8/1k6/2q4P/K7", moves: "h2h3 h2h4"},
		// No flight, in check; others help.
		{text: "6k1/8/8/8/8/8/PPP2R2/1K5r", moves: "f2f1", check: true},
		{text: "6k1/8/8/8/8/8/PPP4B/1K5r", moves: "h2g1", check: true},
	} {
		c.ask(t)
	}
}

// P11.2: flights, by hand: castling leads to one; of the other side's king nothing is told; they rise.
func TestFlights(t *testing.T) {
	for _, c := range []struct {
		text         string
		turn, castle int
		want         string
	}{
		{"4k3/8/8/8/4r3/8/4N3/4K3", 0, 0, "d1 f1 d2 f2"},
		{"4k3/8/8/8/8/8/8/R3K2R", 0, 3, "c1 d1 f1 g1 d2 e2 f2"},
		{"4k3/8/8/8/8/8/8/R3K2R", 0, 0, "d1 f1 d2 e2 f2"},
		{"4k3/8/8/8/8/8/8/R3K2R", 1, 3, "d7 e7 f7 d8 f8"},
		{"4kr2/8/8/8/8/8/8/R3K2R", 0, 3, "c1 d1 d2 e2"},
		{"8/8/8/3k4/8/8/8/K7", 1, 0, "c4 d4 e4 c5 e5 c6 d6 e6"},
		{"8/8/8/3k4/8/3K4/8/8", 1, 0, "c5 e5 c6 d6 e6"},
		{"8/8/8/3k4/8/3K4/8/8", 0, 0, "c2 d2 e2 c3 e3"},
		{"7k/8/8/8/8/8/8/K7", 0, 0, "b1 a2 b2"},
		{"7k/8/8/8/8/8/8/K7", 1, 0, "g7 h7 g8"},
	} {
		p := at(t, c.text, c.turn, c.castle, "-")
		right(t, p)
		if got := New().Flights(p); !slices.Equal(got, places(c.want)) {
			t.Error("Flights", show(p), got, c.want)
		}
	}
}

// P11.1: check, by each kind of man, for either side; who isn't to move doesn't count.
func TestCheck(t *testing.T) {
	for text, want := range map[string]bool{
		"4k3/8/8/8/8/8/3p4/4K3":     true,
		"4k3/8/8/8/8/8/4p3/4K3":     false,
		"4k3/8/8/8/8/5n2/8/4K3":     true,
		"4k3/8/8/8/8/4n3/8/4K3":     false,
		"4k3/8/8/b7/8/8/8/4K3":      true,
		"4k3/8/8/b7/8/2P5/8/4K3":    false,
		"4k3/8/8/8/8/8/8/r3K3":      true,
		"4k3/8/8/8/8/8/8/r2QK3":     false,
		"4k3/8/8/8/7q/8/8/4K3":      true,
		"k3q3/8/8/8/8/8/8/4K3":      true,
		"8/8/8/8/8/4k3/8/4K3":       false,
		"4k3/8/8/8/8/8/8/4K3":       false,
		"4k3/8/8/8/8/8/8/4K2r":      true,
		"4k3/8/4r3/8/8/8/3p4/4K3":   true,
		"4k3/8/4r3/4R3/8/8/8/4K3":   false,
		"4k3/8/4r3/4n3/8/8/8/4K3":   false,
		"r3k2r/8/8/8/8/8/8/R3K2R":   false,
		"r3k2r/8/8/8/4q3/8/8/R3KR2": true,
	} {
		p := at(t, text, 0, 0, "-")
		right(t, p)
		if New().Check(p) != want || New().Check(mirrored(p)) != want {
			t.Error("Check", text)
		}
	}
}

func abs(n int) int { return max(n, -n) }

// hits is whether the man on one square strikes another one, asked by how far apart they are.
func hits(b api.Board, from, to int) bool {
	files, ranks := to%8-from%8, to/8-from/8
	straight, slant := files == 0 || ranks == 0, abs(files) == abs(ranks)
	if from == to {
		return false
	}
	switch b[from] {
	case 1:
		return ranks == 1 && abs(files) == 1
	case -1:
		return ranks == -1 && abs(files) == 1
	case 2, -2:
		return abs(files*ranks) == 2
	case 3, -3:
		return slant && emptyBetween(b, from, to)
	case 4, -4:
		return straight && emptyBetween(b, from, to)
	case 5, -5:
		return (straight || slant) && emptyBetween(b, from, to)
	case 6, -6:
		return max(abs(files), abs(ranks)) == 1
	}
	return false
}

// emptyBetween is whether the squares between two of one line are.
func emptyBetween(b api.Board, from, to int) bool {
	files, ranks := to%8-from%8, to/8-from/8
	far := max(abs(files), abs(ranks))
	for i := 1; i < far; i++ {
		if b[from+i*(files/far+8*(ranks/far))] != 0 {
			return false
		}
	}
	return true
}

// struckBy is whether a man of the side strikes a square.
func struckBy(b api.Board, s, side int) bool {
	for from, man := range b {
		if int(man)*(1-2*side) > 0 && hits(b, from, s) {
			return true
		}
	}
	return false
}

// inCheck is whether the side's king is struck.
func inCheck(b api.Board, side int) bool {
	king := slices.Index(b[:], int8(6-12*side))
	return struckBy(b, king, 1-side)
}

// boardBehind is who stands where behind a move that a man goes.
func boardBehind(p api.Pos, m api.Move) api.Board {
	b := p.At
	man, up := b[m.From], int8(1-2*p.Turn)
	b[m.From], b[m.To] = 0, man
	if m.Promo != 0 {
		b[m.To] = int8(m.Promo) * up
	}
	if man == up && m.To == p.Ep && m.From%8 != m.To%8 {
		b[m.From/8*8+m.To%8] = 0
	}
	if man == 6*up && m.To == m.From+2 {
		b[m.From+1], b[m.From+3] = 4*up, 0
	}
	if man == 6*up && m.To == m.From-2 {
		b[m.From-1], b[m.From-4] = 4*up, 0
	}
	return b
}

// isLegal is what the chapter says of a move that a man goes.
func isLegal(p api.Pos, m api.Move) bool {
	if abs(int(p.At[m.From])) == 6 && abs(m.To-m.From) == 2 {
		if inCheck(p.At, p.Turn) || struckBy(p.At, (m.From+m.To)/2, 1-p.Turn) {
			return false
		}
	}
	return !inCheck(boardBehind(p, m), p.Turn)
}

// named are right positions: with rights and without, with pawns that went two squares, pawns on all ranks, in check and not, held men, mate and stalemate.
func named(t *testing.T) []api.Pos {
	t.Helper()
	return []api.Pos{
		pos.First(),
		at(t, "4k3/8/8/8/8/8/8/4K3", 0, 0, "-"),
		at(t, "r3k2r/8/8/8/8/8/8/R3K2R", 0, 15, "-"),
		at(t, "r3k2r/8/8/8/8/8/8/R3K2R", 0, 6, "-"),
		at(t, "1rr1k1r1/8/8/8/8/8/8/R3K2R", 0, 3, "-"),
		at(t, "3rkr2/8/8/8/8/8/8/R3K2R", 0, 3, "-"),
		at(t, "4k3/8/8/8/8/8/4r3/R3K2R", 0, 3, "-"),
		at(t, "4k3/8/8/pPpPpPpP/PpPpPpPp/8/8/4K3", 0, 0, "c6"),
		at(t, "7k/8/8/K2pP2r/8/8/8/8", 0, 0, "d6"),
		at(t, "r3k2r/1P4P1/2P5/P2pP3/3P4/1P6/P1p3p1/R3K2R", 0, 15, "d6"),
		at(t, "1n1qk1n1/P1P3P1/8/8/8/8/p1p4p/1N1QK1N1", 0, 0, "-"),
		at(t, "r3k2r/p1ppqpb1/bn2pnp1/3PN3/1p2P3/2N2Q1p/PPPBBPPP/R3K2R", 0, 15, "-"),
		at(t, "8/2p5/3p4/KP5r/1R3p1k/8/4P1P1/8", 0, 0, "-"),
		at(t, "r3k2r/Pppp1ppp/1b3nbN/nP6/BBP1P3/q4N2/Pp1P2PP/R2Q1RK1", 0, 12, "-"),
		at(t, "rnbq1k1r/pp1Pbppp/2p5/8/2B5/8/PPP1NnPP/RNBQK2R", 0, 3, "-"),
		at(t, "8/8/8/1k6/3Pp3/8/8/4KQ2", 1, 0, "d3"),
		at(t, "8/8/8/8/8/2k5/1q6/K7", 0, 0, "-"),
		at(t, "8/8/8/8/8/1k6/2q5/K7", 0, 0, "-"),
	}
}

// strewn are right positions that a plain row of numbers makes, with few men and many, rights and Ep wherever they are backed.
func strewn() []api.Pos {
	var out []api.Pos
	n := uint32(1)
	next := func(below int) int {
		n = n*1664525 + 1013904223
		return int(n>>8) % below
	}
	for len(out) < 1500 {
		p := api.Pos{Turn: next(2), Ep: -1}
		for range 2 + next(24) {
			p.At[next(64)] = int8(next(11) - 5)
		}
		p.At[next(64)], p.At[next(64)] = 6, -6
		// Now and then kings and rooks at home, for the sake of the rights, and pawns beside each other, for that of Ep.
		if next(3) == 0 {
			p.At[4], p.At[7], p.At[0] = 6, 4, 4
		}
		if next(3) == 0 {
			file := next(7)
			p.At[32+file], p.At[33+file] = -1, 1
		}
		for _, right := range []int{1, 2, 4, 8} {
			if pos.Backed(p, right) {
				p.Castle += right
			}
		}
		for ep := range 64 {
			q := p
			q.Ep = ep
			if pos.Wrong(q) == api.OK {
				out = append(out, q)
			}
		}
		if pos.Wrong(p) == api.OK {
			out = append(out, p)
		}
	}
	return out
}

// given are all of these, each mirrored as well.
func given(t *testing.T) []api.Pos {
	t.Helper()
	var out []api.Pos
	for _, p := range append(named(t), strewn()...) {
		right(t, p)
		right(t, mirrored(p))
		out = append(out, p, mirrored(p))
	}
	return out
}

// P11.1, P11.2: each move that a man goes, on each of the given positions, held against the chapter's words; and what all of them make of the position.
func TestEach(t *testing.T) {
	r := New()
	met := map[string]int{}
	for _, p := range given(t) {
		if t.Failed() {
			// What fails here fails often: one position's rows are enough.
			return
		}
		var moves []api.Move
		var flights []int
		for _, m := range gen.New().All(p) {
			is := isLegal(p, m)
			tally(met, p, m, is)
			if r.Legal(p, m) != is {
				t.Error("Legal", show(p), move.Text(m), is)
			}
			q, e := r.Play(p, m)
			if !is {
				if e != api.ErrArg || q != (api.Pos{}) {
					t.Error("Play", show(p), move.Text(m), show(q), e)
				}
				continue
			}
			moves = append(moves, m)
			if abs(int(p.At[m.From])) == 6 {
				flights = append(flights, m.To)
			}
			if e != api.OK || q.At != boardBehind(p, m) || q.Turn != 1-p.Turn || pos.Wrong(q) != api.OK {
				t.Error("Play", show(p), move.Text(m), show(q), e)
			}
		}
		check := inCheck(p.At, p.Turn)
		inOrder(moves)
		if got := r.Moves(p); !slices.Equal(got, moves) {
			t.Error("Moves", show(p), texts(got), "not", texts(moves))
		}
		if got := r.Flights(p); !slices.Equal(got, flights) {
			t.Error("Flights", show(p), got, "not", flights)
		}
		mate, stale := check && len(moves) == 0, !check && len(moves) == 0
		if r.Check(p) != check || r.Mate(p) != mate || r.Stale(p) != stale {
			t.Error("Check, Mate, Stale", show(p), r.Check(p), r.Mate(p), r.Stale(p))
		}
		for what, is := range map[string]bool{"check": check, "mate": mate, "stale": stale} {
			if is {
				met[what]++
			}
		}
	}
	for what, least := range map[string]int{
		"castles true": 20, "castles false": 20, "in passing true": 20, "in passing false": 20, "turns true": 20, "turns false": 20, "king true": 20, "king false": 20, "other true": 20, "other false": 20, "check": 20, "mate": 4, "stale": 2,
	} {
		if met[what] < least {
			t.Error("few", what, met[what])
		}
	}
}

// tally counts what a move is, and whether it is legal, so that a test can tell whether it met enough of each.
func tally(met map[string]int, p api.Pos, m api.Move, legal bool) {
	kind := abs(int(p.At[m.From]))
	what := "other"
	switch {
	case kind == 6 && abs(m.To-m.From) == 2:
		what = "castles"
	case kind == 6:
		what = "king"
	case kind == 1 && m.To == p.Ep && m.From%8 != m.To%8:
		what = "in passing"
	case m.Promo != 0:
		what = "turns"
	}
	met[fmt.Sprint(what, " ", legal)]++
}

// games counts the ways in which a game goes on by so many moves.
func games(t *testing.T, p api.Pos, length int) int {
	t.Helper()
	r := New()
	moves := r.Moves(p)
	if length == 1 {
		return len(moves)
	}
	n := 0
	for _, m := range moves {
		q, e := r.Play(p, m)
		if e != api.OK {
			t.Fatal("Play", show(p), move.Text(m), e)
		}
		n += games(t, q, length-1)
	}
	return n
}

// P11.1: how many games there are, from positions of which that is well known.
func TestGames(t *testing.T) {
	for _, c := range []struct {
		text         string
		turn, castle int
		want         []int
	}{
		{"rnbqkbnr/pppppppp/8/8/8/8/PPPPPPPP/RNBQKBNR", 0, 15, []int{20, 400, 8902}},
		{"r3k2r/p1ppqpb1/bn2pnp1/3PN3/1p2P3/2N2Q1p/PPPBBPPP/R3K2R", 0, 15, []int{48, 2039, 97862}},
		{"8/2p5/3p4/KP5r/1R3p1k/8/4P1P1/8", 0, 0, []int{14, 191, 2812, 43238}},
		{"r3k2r/Pppp1ppp/1b3nbN/nP6/BBP1P3/q4N2/Pp1P2PP/R2Q1RK1", 0, 12, []int{6, 264, 9467}},
		{"rnbq1k1r/pp1Pbppp/2p5/8/2B5/8/PPP1NnPP/RNBQK2R", 0, 3, []int{44, 1486, 62379}},
		{"r4rk1/1pp1qppp/p1np1n2/2b1p1B1/2B1P1b1/P1NP1N2/1PP1QPPP/R4RK1", 0, 0, []int{46, 2079, 89890}},
	} {
		p := at(t, c.text, c.turn, c.castle, "-")
		for i, want := range c.want {
			if n := games(t, p, i+1); n != want {
				t.Error("games", c.text, i+1, n, "not", want)
			}
		}
		if n := games(t, mirrored(p), 2); n != c.want[1] {
			t.Error("mirrored", c.text, n)
		}
	}
}

// P11.1: what is told is in layer 9's order, without anything twice.
func TestOrder(t *testing.T) {
	for _, p := range given(t) {
		moves := New().Moves(p)
		for i, m := range moves {
			if i > 0 && !move.Less(moves[i-1], m) {
				t.Error("order", show(p), move.Text(moves[i-1]), move.Text(m))
			}
		}
	}
	// All by hand, with castling ahead of a king's nearer square, and promos from the queen on.
	p := at(t, "1n2k3/P7/8/8/8/8/8/R3K3", 0, 2, "-")
	want := told("a1b1 a1c1 a1d1 a1a2 a1a3 a1a4 a1a5 a1a6 e1c1 e1d1 e1f1 e1d2 e1e2 e1f2 a7a8q a7a8r a7a8b a7a8n a7b8q a7b8r a7b8b a7b8n")
	if moves := New().Moves(p); !slices.Equal(moves, want) {
		t.Error("order", texts(moves))
	}
}

// P11.1: moves that aren't formed, that no man goes, or that leave the king in check; squares that are none.
func TestRefused(t *testing.T) {
	p := at(t, "r3k2r/P5p1/2n5/1B1pP3/3Q4/5N2/2P3PP/R3K2R", 0, 15, "d6")
	right(t, p)
	for _, text := range []string{
		// Nothing of these is formed: onto a man of its own, onto its own square, from nobody's square or another side's, promos where there are none and none where there should be one.
		"e1a1", "e1h1", "a1a7", "f3h2", "d4e5", "d4d4", "e1e1", "c4c5", "b6b7", "g7g6", "e8e7", "d5d4", "c6b8", "c2c4q", "e5d6q", "e1g1q", "f3g5n", "a7a8", "a7a8k",
		// Formed, and no man goes so.
		"b5d7", "d4d6", "d4h5", "f3f4", "a1b2", "e1e3", "e1b1", "c2d3", "c2c5", "e5f6", "e5e7", "a7b8q", "a7a6", "g2g5", "d4e8", "b5e8",
	} {
		refused(t, p, of(text))
		refused(t, mirrored(p), mirroredMove(of(text)))
	}
	for _, text := range []string{"e5d6", "e5e6", "b5c6", "d4d5", "d4g4", "f3g5", "e1g1", "e1c1", "e1f1", "c2c4", "h2h4", "a1d1", "h1f1"} {
		plays(t, p, of(text))
		plays(t, mirrored(p), mirroredMove(of(text)))
	}
	// In check by the rook: all that doesn't help.
	p = at(t, "4k3/4r3/8/8/8/2N5/PP6/R3K2R", 0, 3, "-")
	for _, text := range []string{"a2a3", "b2b4", "a1d1", "h1h8", "h1e1", "c3d5", "c3a4", "e1g1", "e1c1", "e1e2"} {
		refused(t, p, of(text))
		refused(t, mirrored(p), mirroredMove(of(text)))
	}
	for _, text := range []string{"c3e2", "c3e4", "e1d1", "e1f2"} {
		plays(t, p, of(text))
		plays(t, mirrored(p), mirroredMove(of(text)))
	}
	for _, p := range []api.Pos{p, mirrored(p), pos.First()} {
		for _, n := range noSquares {
			for _, s := range []int{0, 4, 12, 18, 52, 60, 63, n} {
				refused(t, p, api.Move{From: n, To: s})
				refused(t, p, api.Move{From: s, To: n})
				refused(t, p, api.Move{From: s, To: n, Promo: 5})
			}
		}
	}
}

// P11.1, P11.2: positions that lack something, each by itself, with each of the errors that layer 8 tells; the same position plays as soon as it is right.
func TestWrongPosition(t *testing.T) {
	r := New()
	p := at(t, "r3k2r/8/8/3pP3/8/8/5P2/R3K2R", 0, 15, "d6")
	plays(t, p, of("e1g1"))
	plays(t, p, of("e5d6"))
	met := map[api.Errno]bool{}
	for i, c := range []struct {
		want  api.Errno
		spoil func(p *api.Pos)
	}{
		{api.ErrArg, func(p *api.Pos) { p.At[40] = 7 }},
		{api.ErrArg, func(p *api.Pos) { p.At[40] = -128 }},
		{api.ErrKings, func(p *api.Pos) { p.At[40] = 6 }},
		{api.ErrKings, func(p *api.Pos) { p.At[60] = 0 }},
		{api.ErrKings, func(p *api.Pos) { p.At[4] = 0 }},
		{api.ErrPawns, func(p *api.Pos) { p.At[1] = 1 }},
		{api.ErrPawns, func(p *api.Pos) { p.At[57] = 1 }},
		{api.ErrMen, func(p *api.Pos) { copy(p.At[16:32], slices.Repeat([]int8{2}, 16)) }},
		{api.ErrArg, func(p *api.Pos) { p.Turn = 2 }},
		{api.ErrArg, func(p *api.Pos) { p.Turn = -1 }},
		{api.ErrArg, func(p *api.Pos) { p.Turn = math.MinInt }},
		{api.ErrArg, func(p *api.Pos) { p.Turn = math.MaxInt }},
		{api.ErrArg, func(p *api.Pos) { p.Castle = 16 }},
		{api.ErrArg, func(p *api.Pos) { p.Castle = -1 }},
		{api.ErrArg, func(p *api.Pos) { p.Ep = -2 }},
		{api.ErrArg, func(p *api.Pos) { p.Ep = 64 }},
		{api.ErrArg, func(p *api.Pos) { p.Ep = 1<<32 + 43 }},
		{api.ErrTouch, func(p *api.Pos) { p.At[51] = 1 }},
		{api.ErrTouch, func(p *api.Pos) { p.At[52] = 4 }},
		{api.ErrTouch, func(p *api.Pos) { p.At[60], p.At[11], p.Castle = 0, -6, 3 }},
		{api.ErrCastle, func(p *api.Pos) { p.At[56] = 0 }},
		{api.ErrCastle, func(p *api.Pos) { p.At[7] = 0 }},
		{api.ErrPassant, func(p *api.Pos) { p.Ep = 44 }},
		{api.ErrPassant, func(p *api.Pos) { p.Ep = 20 }},
		{api.ErrPassant, func(p *api.Pos) { p.At[51] = -2 }},
		{api.ErrPassant, func(p *api.Pos) { p.At[43] = -2 }},
		// What of several is told is layer 8's affair.
		{api.ErrKings, func(p *api.Pos) { *p = api.Pos{} }},
		{api.ErrKings, func(p *api.Pos) { *p = api.Pos{Turn: 9, Castle: 99, Ep: 99} }},
	} {
		q := p
		c.spoil(&q)
		if e := pos.Wrong(q); e != c.want {
			t.Error("spoilt", i, e)
		}
		met[c.want] = true
		nothing(t, r, q, c.want)
		// The mirror may mend numbers that are beyond their bounds.
		if e := pos.Wrong(mirrored(q)); e != api.OK {
			nothing(t, r, mirrored(q), e)
		}
	}
	for _, e := range []api.Errno{api.ErrArg, api.ErrKings, api.ErrPawns, api.ErrMen, api.ErrTouch, api.ErrCastle, api.ErrPassant} {
		if !met[e] {
			t.Error("not met", e)
		}
	}
}

// P11.1: mates and stalemates that aren't right are neither.
func TestNoEnds(t *testing.T) {
	for _, c := range []struct {
		text         string
		turn, castle int
		ep           string
		want         api.Errno
	}{
		{"8/8/8/8/8/2k5/1q6/K7", 0, 1, "-", api.ErrCastle},
		{"8/8/8/8/8/2k5/1q6/K7", 0, 0, "d6", api.ErrPassant},
		{"8/8/8/8/8/2k5/1q6/K7", 0, 16, "-", api.ErrArg},
		{"8/8/8/8/8/2k5/1q6/K2R3Q", 0, 16, "-", api.ErrArg},
		{"p7/8/8/8/8/2k5/1q6/K7", 0, 0, "-", api.ErrPawns},
		{"2R5/8/8/8/8/2k5/1q6/K7", 0, 0, "-", api.ErrTouch},
		{"8/8/8/8/8/1k6/2q5/K7", 0, 1, "-", api.ErrCastle},
		{"8/8/8/8/8/1k6/2q5/K7", 0, 0, "d3", api.ErrPassant},
		{"8/8/8/8/8/8/2q5/K7", 0, 0, "-", api.ErrKings},
		{"8/8/8/8/8/8/8/8", 0, 0, "-", api.ErrKings},
	} {
		p := at(t, c.text, c.turn, c.castle, c.ep)
		if e := pos.Wrong(p); e != c.want {
			t.Error("wrong", show(p), e)
		}
		nothing(t, New(), p, c.want)
	}
}

// P11.1: check is asked of the board alone, also where the position lacks something; without a side, or its king, it is none.
func TestCheckOfWrong(t *testing.T) {
	for _, c := range []struct {
		text         string
		turn, castle int
		want         bool
	}{
		{"4k3/8/8/8/8/8/4r3/4K3", 0, 15, true},
		{"4k3/8/8/8/8/8/4r3/4K3", 1, 0, false},
		{"4k3/8/8/8/8/8/4r3/4K3", 2, 0, false},
		{"4k3/8/8/8/8/8/4r3/4K3", -1, 0, false},
		{"4k3/8/8/8/8/8/4r3/4K3", math.MaxInt, 0, false},
		{"4k3/8/8/8/8/8/4r3/4K3", math.MinInt, 0, false},
		{"8/8/8/8/8/8/4r3/4K3", 0, 0, true},
		{"8/8/8/8/8/8/4r3/4K3", 1, 0, false},
		{"8/8/8/8/8/8/8/8", 0, 0, false},
		{"8/8/8/8/8/8/4k3/4K3", 0, 0, true},
		{"8/8/8/8/8/8/4k3/4K3", 1, 0, true},
	} {
		p := at(t, c.text, c.turn, c.castle, "-")
		if New().Check(p) != c.want {
			t.Error("Check", show(p), !c.want)
		}
	}
	p := at(t, "4k3/8/8/8/8/8/4r3/4K3", 0, 0, "-")
	p.At[40] = 7
	if New().Check(p) {
		t.Error("Check of no board")
	}
}

// P11.2: of nil Rules nothing is told, ErrNil, false, whatever the position lacks.
func TestNil(t *testing.T) {
	var r *Rules
	for _, p := range append(named(t), api.Pos{}, api.Pos{Turn: 7}, at(t, "4k3/8/8/8/8/8/8/4K3", 0, 15, "-")) {
		nothing(t, r, p, api.ErrNil)
		if r.Check(p) {
			t.Error("Check", show(p))
		}
		for _, m := range New().Moves(p) {
			if q, e := r.Play(p, m); r.Legal(p, m) || q != (api.Pos{}) || e != api.ErrNil {
				t.Error("nil", show(p), m)
			}
		}
	}
}

// spoil writes over a list, spare room included.
func spoil[T any](list []T, by T) {
	whole := list[:cap(list)]
	for i := range whole {
		whole[i] = by
	}
}

// R4: what is answered is new memory; R5: what was asked ahead, also of other Rules, changes no answer.
func TestAnswersAreNew(t *testing.T) {
	r, other := New(), New()
	for _, p := range named(t) {
		kept := p
		moves, flights := slices.Clone(r.Moves(p)), slices.Clone(r.Flights(p))
		first, second := r.Moves(p), other.Moves(p)
		spoil(first, api.Move{From: -9, To: -9, Promo: -9})
		if !slices.Equal(second, moves) {
			t.Error("shared", show(p))
		}
		spoil(second, api.Move{From: -9, To: -9, Promo: -9})
		once, twice := r.Flights(p), other.Flights(p)
		spoil(once, -9)
		if !slices.Equal(twice, flights) {
			t.Error("shared", show(p))
		}
		spoil(twice, -9)
		for _, m := range moves {
			r.Play(p, m)
		}
		if !slices.Equal(r.Moves(p), moves) || !slices.Equal(other.Flights(p), flights) || !slices.Equal(r.Flights(p), flights) || p != kept {
			t.Error("again", show(p))
		}
	}
}
