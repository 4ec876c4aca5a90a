package gen

import (
	"fmt"
	"math"
	"slices"
	"strings"
	"testing"

	"alfil/api"
	"alfil/forsyth"
	"alfil/move"
	"alfil/pos"
)

// noSquares are numbers that are none; some of them would be one if they were cut to fewer bits, or their sign were lost.
var noSquares = []int{-1, -2, -4, -12, -63, -64, 64, 65, 68, 127, 128, 255, 256, 256 + 4, 1<<16 + 12, 1 << 32, 1<<32 + 4, 1<<32 - 1, math.MinInt32, math.MaxInt32, math.MinInt + 1, math.MinInt, math.MaxInt - 1, math.MaxInt}

// noPromos are numbers that nothing turns into; some of them would be a man if they were cut to fewer bits, or their sign were lost.
var noPromos = []int{-1, -2, -3, -4, -5, -6, -7, 1, 6, 7, 8, 13, 256, 256 + 5, 1<<16 + 5, 1 << 32, 1<<32 + 5, math.MinInt32, math.MaxInt32, math.MinInt + 1, math.MinInt, math.MaxInt - 1, math.MaxInt}

// place is the number of a square's name, found by its signs' places.
func place(name string) int {
	return strings.IndexByte("12345678", name[1])*8 + strings.IndexByte("abcdefgh", name[0])
}

// at is a position of a Forsyth text; ep is a square's name, or "-".
func at(t *testing.T, text string, turn, castle int, ep string) api.Pos {
	t.Helper()
	b, _, e := forsyth.Read(text)
	if e != api.OK {
		t.Fatal(text, e)
	}
	s := -1
	if ep != "-" {
		s = place(ep)
	}
	return api.Pos{At: b, Turn: turn, Castle: castle, Ep: s}
}

// of is the move of two names and a letter, of which none need be a move's.
func of(text string) api.Move {
	m := api.Move{From: place(text[:2]), To: place(text[2:4])}
	if len(text) > 4 {
		m.Promo = strings.IndexByte("?pnbrqk", text[4])
	}
	return m
}

// told are the moves of texts between blanks; one that ends on * turns into each of the four men.
func told(texts string) []api.Move {
	var out []api.Move
	for _, text := range strings.Fields(texts) {
		if whole, each := strings.CutSuffix(text, "*"); each {
			out = append(out, of(whole+"q"), of(whole+"r"), of(whole+"b"), of(whole+"n"))
			continue
		}
		out = append(out, of(text))
	}
	return out
}

// mirrored is a position as the other side sees it, put together rank by rank.
func mirrored(p api.Pos) api.Pos {
	q := api.Pos{Turn: 1 - p.Turn, Castle: p.Castle%4*4 + p.Castle/4, Ep: -1}
	for s, m := range p.At {
		q.At[s^56] = -m
	}
	if p.Ep >= 0 {
		q.Ep = p.Ep ^ 56
	}
	return q
}

func mirroredMove(m api.Move) api.Move {
	return api.Move{From: m.From ^ 56, To: m.To ^ 56, Promo: m.Promo}
}

func mirroredAll(moves []api.Move) []api.Move {
	var out []api.Move
	for _, m := range moves {
		out = append(out, mirroredMove(m))
	}
	inOrder(out)
	return out
}

// comesFirst is the order of moves, asked part by part.
func comesFirst(a, b api.Move) bool {
	if a.From != b.From {
		return a.From < b.From
	}
	if a.To != b.To {
		return a.To < b.To
	}
	return a.Promo > b.Promo
}

// inOrder sorts, one by one.
func inOrder(moves []api.Move) {
	for i := range moves {
		for j := i; j > 0 && comesFirst(moves[j], moves[j-1]); j-- {
			moves[j], moves[j-1] = moves[j-1], moves[j]
		}
	}
}

// show is a position, short enough to be read where a test fails.
func show(p api.Pos) string {
	text, _ := forsyth.Write(p.At)
	return fmt.Sprint(text, " ", p.Turn, p.Castle, p.Ep)
}

// texts are moves, likewise.
func texts(moves []api.Move) string {
	var out []string
	for _, m := range moves {
		out = append(out, move.Text(m))
	}
	return strings.Join(out, " ")
}

// right fails where a position that a test wants to be right isn't.
func right(t *testing.T, p api.Pos) {
	t.Helper()
	if e := pos.Wrong(p); e != api.OK {
		t.Fatal("right", show(p), e)
	}
}

// comes asks for the moves from a square, and for each of them whether it goes.
func comes(t *testing.T, p api.Pos, s int, want []api.Move) {
	t.Helper()
	right(t, p)
	g := New()
	if got := g.From(p, s); !slices.Equal(got, want) {
		t.Error("From", show(p), s, texts(got), "not", texts(want))
	}
	for _, m := range want {
		if !g.Goes(p, m) {
			t.Error("Goes", show(p), move.Text(m))
		}
	}
}

// refused asks for a move that no man goes.
func refused(t *testing.T, p api.Pos, m api.Move) {
	t.Helper()
	g := New()
	if g.Goes(p, m) || slices.Contains(g.From(p, m.From), m) || slices.Contains(g.All(p), m) {
		t.Error("refused", show(p), m)
	}
}

// nothing asks all of a position of which nothing is told.
func nothing(t *testing.T, g *Gen, p api.Pos) {
	t.Helper()
	if all := g.All(p); len(all) != 0 {
		t.Error("All", show(p), texts(all))
	}
	for _, s := range append([]int{0, 4, 12, 48, 60, 63}, noSquares...) {
		if from := g.From(p, s); len(from) != 0 {
			t.Error("From", show(p), s, texts(from))
		}
	}
	for _, m := range told("e1e2 e1g1 e1c1 e8e7 e8g8 e8c8 a1a2 h1h2 a1a1 e2e4 e2e3 d2d4 e7e5 e5d6 g1f3 b1a3 a7a8q a7b8n") {
		if g.Goes(p, m) {
			t.Error("Goes", show(p), m)
		}
	}
}

// goes is a position, with the moves from a square, told by hand, in order.
type goes struct {
	text         string
	turn, castle int
	ep           string
	from, want   string
}

// ask asks for the moves, and for the mirrored ones of the mirrored position.
func (c goes) ask(t *testing.T) {
	t.Helper()
	p := at(t, c.text, c.turn, c.castle, c.ep)
	comes(t, p, place(c.from), told(c.want))
	comes(t, mirrored(p), place(c.from)^56, mirroredAll(told(c.want)))
}

// P10.1: the first position's twenty moves, and Black's.
func TestFirst(t *testing.T) {
	g := New()
	white := told("b1a3 b1c3 g1f3 g1h3 a2a3 a2a4 b2b3 b2b4 c2c3 c2c4 d2d3 d2d4 e2e3 e2e4 f2f3 f2f4 g2g3 g2g4 h2h3 h2h4")
	if all := g.All(pos.First()); len(all) != 20 || !slices.Equal(all, white) {
		t.Error("White", texts(all))
	}
	black := told("a7a5 a7a6 b7b5 b7b6 c7c5 c7c6 d7d5 d7d6 e7e5 e7e6 f7f5 f7f6 g7g5 g7g6 h7h5 h7h6 b8a6 b8c6 g8f6 g8h6")
	p := pos.First()
	p.Turn = 1
	if all := g.All(p); !slices.Equal(all, black) {
		t.Error("Black", texts(all))
	}
}

// P10.1: men of every kind, alone, and with men of either side in the way; the same for Black by the mirror.
func TestMen(t *testing.T) {
	for _, c := range []goes{
		{text: "7k/8/8/8/3N4/8/8/K7", ep: "-", from: "d4", want: "d4c2 d4e2 d4b3 d4f3 d4b5 d4f5 d4c6 d4e6"},
		{text: "1k6/8/8/8/3B4/8/8/1K6", ep: "-", from: "d4", want: "d4a1 d4g1 d4b2 d4f2 d4c3 d4e3 d4c5 d4e5 d4b6 d4f6 d4a7 d4g7 d4h8"},
		{text: "1k6/8/8/8/3R4/8/8/1K6", ep: "-", from: "d4", want: "d4d1 d4d2 d4d3 d4a4 d4b4 d4c4 d4e4 d4f4 d4g4 d4h4 d4d5 d4d6 d4d7 d4d8"},
		{text: "1k6/8/8/8/3Q4/8/8/1K6", ep: "-", from: "d4", want: "d4a1 d4d1 d4g1 d4b2 d4d2 d4f2 d4c3 d4d3 d4e3 d4a4 d4b4 d4c4 d4e4 d4f4 d4g4 d4h4 d4c5 d4d5 d4e5 d4b6 d4d6 d4f6 d4a7 d4d7 d4g7 d4d8 d4h8"},
		{text: "1k6/8/8/8/3K4/8/8/8", ep: "-", from: "d4", want: "d4c3 d4d3 d4e3 d4c4 d4e4 d4c5 d4d5 d4e5"},
		{text: "k7/8/8/8/8/8/8/7K", ep: "-", from: "h1", want: "h1g1 h1g2 h1h2"},
		{text: "1k6/8/8/8/8/8/8/N6K", ep: "-", from: "a1", want: "a1c2 a1b3"},
		// Men of its own side, onto which nobody goes, and of the other side, which are taken; nobody goes on behind either.
		{text: "1k6/8/2p1P3/5n2/3N4/1P6/2p1P3/K7", ep: "-", from: "d4", want: "d4c2 d4f3 d4b5 d4f5 d4c6"},
		{text: "1k6/6p1/1p6/8/3B4/2P5/8/K5n1", ep: "-", from: "d4", want: "d4g1 d4f2 d4e3 d4c5 d4e5 d4b6 d4f6 d4g7"},
		{text: "1k1r4/3p4/8/8/Pr1R1PP1/8/3P4/K7", ep: "-", from: "d4", want: "d4d3 d4b4 d4c4 d4e4 d4d5 d4d6 d4d7"},
		{text: "1k6/3p2p1/8/2PpP3/2nQP3/2rbp3/8/K7", ep: "-", from: "d4", want: "d4c3 d4d3 d4e3 d4c4 d4d5"},
		{text: "1k6/8/8/2PpP3/2nKP3/2r1p3/8/8", ep: "-", from: "d4", want: "d4c3 d4d3 d4e3 d4c4 d4d5"},
		{text: "4k3/8/8/8/8/8/PP6/KB6", ep: "-", from: "a1", want: ""},
		{text: "4k3/8/8/8/8/1P6/1RP5/1N1K4", ep: "-", from: "b2", want: "b2a2"},
		{text: "4k3/8/8/8/8/1P6/PB6/K1N5", ep: "-", from: "b2", want: "b2a3 b2c3 b2d4 b2e5 b2f6 b2g7 b2h8"},
		// Rays that end at the edge don't go on from the other one.
		{text: "k7/8/8/8/7R/8/8/K7", ep: "-", from: "h4", want: "h4h1 h4h2 h4h3 h4a4 h4b4 h4c4 h4d4 h4e4 h4f4 h4g4 h4h5 h4h6 h4h7 h4h8"},
		{text: "k7/8/8/7B/8/8/8/K7", ep: "-", from: "h5", want: "h5d1 h5e2 h5f3 h5g4 h5g6 h5f7 h5e8"},
		{text: "k7/8/8/7N/8/8/8/K7", ep: "-", from: "h5", want: "h5g3 h5f4 h5f6 h5g7"},
	} {
		c.ask(t)
	}
	// Of Black's men by hand, without the mirror.
	p := at(t, "1k6/8/8/2n5/8/1P1p4/8/K7", 1, 0, "-")
	comes(t, p, place("c5"), told("c5b3 c5a4 c5e4 c5a6 c5e6 c5b7 c5d7"))
	comes(t, p, place("d3"), told("d3d2"))
	comes(t, p, place("b8"), told("b8a7 b8b7 b8c7 b8a8 b8c8"))
}

// P10.1: pawns one square ahead and two, from their second rank and from elsewhere, with the first square or the second one taken by either side.
func TestPawnAhead(t *testing.T) {
	for _, c := range []goes{
		{text: "4k3/8/8/8/8/8/3P4/4K3", ep: "-", from: "d2", want: "d2d3 d2d4"},
		{text: "4k3/8/8/8/8/8/P7/4K3", ep: "-", from: "a2", want: "a2a3 a2a4"},
		{text: "4k3/8/8/8/8/8/7P/4K3", ep: "-", from: "h2", want: "h2h3 h2h4"},
		{text: "4k3/8/8/8/8/3P4/8/4K3", ep: "-", from: "d3", want: "d3d4"},
		{text: "4k3/8/8/8/3P4/8/8/4K3", ep: "-", from: "d4", want: "d4d5"},
		{text: "4k3/8/8/3P4/8/8/8/4K3", ep: "-", from: "d5", want: "d5d6"},
		{text: "7k/8/3P4/8/8/8/8/4K3", ep: "-", from: "d6", want: "d6d7"},
		{text: "7k/3P4/8/8/8/8/8/4K3", ep: "-", from: "d7", want: "d7d8*"},
		{text: "4k3/8/8/8/8/3n4/3P4/6K1", ep: "-", from: "d2", want: ""},
		{text: "4k3/8/8/8/8/3N4/3P4/4K3", ep: "-", from: "d2", want: ""},
		{text: "4k3/8/8/8/3n4/8/3P4/4K3", ep: "-", from: "d2", want: "d2d3"},
		{text: "4k3/8/8/8/3N4/8/3P4/4K3", ep: "-", from: "d2", want: "d2d3"},
		{text: "4k3/8/8/3n4/8/8/3P4/4K3", ep: "-", from: "d2", want: "d2d3 d2d4"},
		{text: "4k3/8/8/8/3p4/3p4/3P4/6K1", ep: "-", from: "d2", want: ""},
		{text: "4k3/8/8/3p4/3P4/8/8/4K3", ep: "-", from: "d4", want: ""},
		{text: "4k3/8/8/3P4/3P4/8/8/4K3", ep: "-", from: "d4", want: ""},
		{text: "3r3k/3P4/8/8/8/8/8/4K3", ep: "-", from: "d7", want: ""},
		{text: "3N3k/3P4/8/8/8/8/8/4K3", ep: "-", from: "d7", want: ""},
		// The other side's second rank is none of its own.
		{text: "4k3/8/8/8/8/8/3p4/6K1", turn: 1, ep: "-", from: "d2", want: "d2d1*"},
		{text: "4k3/3p4/8/8/8/8/8/6K1", turn: 1, ep: "-", from: "d7", want: "d7d5 d7d6"},
		{text: "4k3/8/3p4/8/8/8/8/6K1", turn: 1, ep: "-", from: "d6", want: "d6d5"},
		// Its own pawn that went two squares bars the file, and Ep bars none.
		{text: "4k3/8/8/3p4/3P4/8/8/4K3", ep: "d6", from: "d4", want: ""},
		{text: "4k3/8/8/3pP3/8/8/8/4K3", ep: "d6", from: "e5", want: "e5d6 e5e6"},
	} {
		c.ask(t)
	}
	p := at(t, "4k3/8/8/8/3n4/8/2PPP3/4K3", 0, 0, "-")
	for _, text := range []string{
		"d2d4", "d2d5", "d2d1", "d2d2", "d2c3", "d2e3", "d2c2", "d2e2", "d2d8q", "c2c5", "c2d3", "c2b3", "c2d4", "c2a4", "c2c1", "e2e1", "e2e5",
	} {
		refused(t, p, of(text))
		refused(t, mirrored(p), mirroredMove(of(text)))
	}
}

// P10.1: pawns that capture to either side, at the files a and h, where nobody stands, where a man of their own side stands.
func TestPawnCaptures(t *testing.T) {
	for _, c := range []goes{
		{text: "4k3/8/8/2npb3/3P4/8/8/4K3", ep: "-", from: "d4", want: "d4c5 d4e5"},
		{text: "4k3/8/8/2n1b3/3P4/8/8/4K3", ep: "-", from: "d4", want: "d4c5 d4d5 d4e5"},
		{text: "4k3/8/8/2n1B3/3P4/8/8/4K3", ep: "-", from: "d4", want: "d4c5 d4d5"},
		{text: "4k3/8/8/2N1b3/3P4/8/8/4K3", ep: "-", from: "d4", want: "d4d5 d4e5"},
		{text: "4k3/8/8/2NNB3/3P4/8/8/4K3", ep: "-", from: "d4", want: ""},
		{text: "4k3/8/8/2PpP3/3P4/8/8/4K3", ep: "-", from: "d4", want: ""},
		{text: "4k3/8/8/8/3P4/8/8/4K3", ep: "-", from: "d4", want: "d4d5"},
		{text: "4k3/8/8/8/2rPr3/2n1n3/8/K7", ep: "-", from: "d4", want: "d4d5"},
		{text: "4k3/8/2r1r3/8/3P4/8/8/K7", ep: "-", from: "d4", want: "d4d5"},
		// At the edge: what stands a rank on, or back, on the other one isn't reached.
		{text: "4k3/8/7r/1n5r/P6r/8/8/4K3", ep: "-", from: "a4", want: "a4a5 a4b5"},
		{text: "4k3/8/r7/r5n1/r6P/8/8/4K3", ep: "-", from: "h4", want: "h4g5 h4h5"},
		{text: "4k3/8/7r/7r/P6r/8/8/4K3", ep: "-", from: "a4", want: "a4a5"},
		{text: "4k3/8/r7/r7/r6P/8/8/4K3", ep: "-", from: "h4", want: "h4h5"},
		// From its second rank: ahead is barred, to the side it isn't.
		{text: "4k3/8/8/8/2b1b3/2npb3/3P4/7K", ep: "-", from: "d2", want: "d2c3 d2e3"},
		{text: "4k3/8/8/8/8/2n5/3P4/7K", ep: "-", from: "d2", want: "d2c3 d2d3 d2d4"},
		// Each kind of man is taken, but the king.
		{text: "7k/8/1q1r4/2P5/8/8/8/7K", ep: "-", from: "c5", want: "c5b6 c5c6 c5d6"},
		{text: "7k/8/1p1b4/2P5/8/8/8/7K", ep: "-", from: "c5", want: "c5b6 c5c6 c5d6"},
		{text: "4k3/8/8/8/2p5/1P1N4/8/7K", turn: 1, ep: "-", from: "c4", want: "c4b3 c4c3 c4d3"},
	} {
		c.ask(t)
	}
}

// P10.1: pawns that turn into each of the four men, ahead and by capturing, at the edge and within.
func TestPromos(t *testing.T) {
	for _, c := range []goes{
		{text: "1n2k3/P7/8/8/8/8/8/4K3", ep: "-", from: "a7", want: "a7a8q a7a8r a7a8b a7a8n a7b8q a7b8r a7b8b a7b8n"},
		{text: "rn2k3/P7/8/8/8/8/8/4K3", ep: "-", from: "a7", want: "a7b8*"},
		{text: "4k1n1/7P/8/8/8/8/8/4K3", ep: "-", from: "h7", want: "h7g8* h7h8*"},
		{text: "4k1N1/7P/8/8/8/8/8/4K3", ep: "-", from: "h7", want: "h7h8*"},
		{text: "r1b1k3/1P6/8/8/8/8/8/4K3", ep: "-", from: "b7", want: "b7a8* b7b8* b7c8*"},
		{text: "rqb1k3/1P6/8/8/8/8/8/4K3", ep: "-", from: "b7", want: "b7a8* b7c8*"},
		{text: "r3k2r/1P4P1/8/8/8/8/8/4K3", castle: 12, ep: "-", from: "g7", want: "g7g8* g7h8*"},
		{text: "4k3/8/8/8/8/8/1p6/N1R1K3", turn: 1, ep: "-", from: "b2", want: "b2a1q b2a1r b2a1b b2a1n b2b1q b2b1r b2b1b b2b1n b2c1q b2c1r b2c1b b2c1n"},
		{text: "4k3/8/8/8/8/8/p7/4K3", turn: 1, ep: "-", from: "a2", want: "a2a1*"},
	} {
		c.ask(t)
	}
	p := at(t, "1n2k3/P7/8/8/8/8/6P1/4K3", 0, 0, "-")
	for _, text := range []string{"a7a8", "a7b8", "a7a8p", "a7a8k", "a7b8p", "a7b8k", "a7c8q", "a7a6", "a7a6q", "g2g3q", "g2g4n", "g2g8q", "e1e2q", "e1d1k", "e1f1p"} {
		refused(t, p, of(text))
		refused(t, mirrored(p), mirroredMove(of(text)))
	}
	for _, n := range noPromos {
		for _, text := range []string{"a7a8", "a7b8", "g2g3", "e1e2"} {
			m := of(text)
			m.Promo = n
			refused(t, p, m)
		}
	}
}

// P10.1: taking in passing, by either side, from either side, at the edge; pawns and others near Ep that don't.
func TestPassing(t *testing.T) {
	for _, c := range []goes{
		{text: "4k3/8/8/3pP3/8/8/8/4K3", ep: "d6", from: "e5", want: "e5d6 e5e6"},
		{text: "4k3/8/8/2Pp4/8/8/8/4K3", ep: "d6", from: "c5", want: "c5c6 c5d6"},
		{text: "4k3/8/8/3pP3/8/8/8/4K3", ep: "-", from: "e5", want: "e5e6"},
		{text: "4k3/8/8/2PpPp2/8/8/8/4K3", ep: "f6", from: "e5", want: "e5e6 e5f6"},
		{text: "4k3/8/8/2PpPp2/8/8/8/4K3", ep: "f6", from: "c5", want: "c5c6"},
		{text: "4k3/8/4n3/2PpP3/8/8/8/4K3", ep: "d6", from: "e5", want: "e5d6"},
		{text: "4k3/8/5n2/3pP3/8/8/8/4K3", ep: "d6", from: "e5", want: "e5d6 e5e6 e5f6"},
		{text: "4k3/8/8/pP6/8/8/8/4K3", ep: "a6", from: "b5", want: "b5a6 b5b6"},
		{text: "4k3/8/8/6Pp/8/8/8/4K3", ep: "h6", from: "g5", want: "g5g6 g5h6"},
		// Over the edge, from the file a to h, and the other way.
		{text: "4k3/8/8/P6p/8/8/8/4K3", ep: "h6", from: "a5", want: "a5a6"},
		{text: "4k3/8/8/p6P/8/8/8/4K3", ep: "a6", from: "h5", want: "h5h6"},
		{text: "4k3/8/8/p7/7P/8/8/4K3", ep: "a6", from: "h4", want: "h4h5"},
		// From other ranks, and other files.
		{text: "4k3/8/8/3p4/4P3/8/8/4K3", ep: "d6", from: "e4", want: "e4d5 e4e5"},
		{text: "7k/4P3/8/3p4/8/8/8/4K3", ep: "d6", from: "e7", want: "e7e8*"},
		{text: "4k3/8/8/3p1P2/8/8/8/4K3", ep: "d6", from: "f5", want: "f5f6"},
		{text: "4k3/8/4P3/3p4/8/8/8/4K3", ep: "d6", from: "e6", want: "e6e7"},
		// Black's, by hand.
		{text: "4k3/8/8/8/3Pp3/8/8/4K3", turn: 1, ep: "d3", from: "e4", want: "e4d3 e4e3"},
		{text: "4k3/8/8/8/2pP4/8/8/4K3", turn: 1, ep: "d3", from: "c4", want: "c4c3 c4d3"},
		{text: "4k3/8/8/8/6pP/8/8/4K3", turn: 1, ep: "h3", from: "g4", want: "g4g3 g4h3"},
		{text: "4k3/8/8/8/3Pp3/8/8/4K3", turn: 1, ep: "-", from: "e4", want: "e4e3"},
		// Other men go to Ep as they go to any square.
		{text: "4k3/8/8/3p4/5N2/8/8/4K3", ep: "d6", from: "f4", want: "f4e2 f4g2 f4d3 f4h3 f4d5 f4h5 f4e6 f4g6"},
		{text: "4k3/8/8/3p4/8/B7/8/4K3", ep: "d6", from: "a3", want: "a3c1 a3b2 a3b4 a3c5 a3d6 a3e7 a3f8"},
		{text: "7k/8/4K3/3p4/8/8/8/8", ep: "d6", from: "e6", want: "e6d5 e6e5 e6f5 e6d6 e6f6 e6d7 e6e7 e6f7"},
	} {
		c.ask(t)
	}
}

// P10.1: castling to either side by either side, with and without the right, with a man between king and rook.
func TestCastling(t *testing.T) {
	const near = "e1d1 e1f1 e1d2 e1e2 e1f2"
	const free = "r3k2r/8/8/8/8/8/8/R3K2R"
	for _, c := range []goes{
		{text: free, castle: 15, ep: "-", from: "e1", want: "e1c1 e1d1 e1f1 e1g1 e1d2 e1e2 e1f2"},
		{text: free, castle: 1, ep: "-", from: "e1", want: "e1d1 e1f1 e1g1 e1d2 e1e2 e1f2"},
		{text: free, castle: 2, ep: "-", from: "e1", want: "e1c1 e1d1 e1f1 e1d2 e1e2 e1f2"},
		{text: free, castle: 13, ep: "-", from: "e1", want: "e1d1 e1f1 e1g1 e1d2 e1e2 e1f2"},
		{text: free, castle: 14, ep: "-", from: "e1", want: "e1c1 e1d1 e1f1 e1d2 e1e2 e1f2"},
		{text: free, castle: 12, ep: "-", from: "e1", want: near},
		{text: free, castle: 0, ep: "-", from: "e1", want: near},
		{text: free, turn: 1, castle: 15, ep: "-", from: "e8", want: "e8d7 e8e7 e8f7 e8c8 e8d8 e8f8 e8g8"},
		{text: free, turn: 1, castle: 4, ep: "-", from: "e8", want: "e8d7 e8e7 e8f7 e8d8 e8f8 e8g8"},
		{text: free, turn: 1, castle: 8, ep: "-", from: "e8", want: "e8d7 e8e7 e8f7 e8c8 e8d8 e8f8"},
		{text: free, turn: 1, castle: 3, ep: "-", from: "e8", want: "e8d7 e8e7 e8f7 e8d8 e8f8"},
		// The rook goes on its own, too.
		{text: free, castle: 15, ep: "-", from: "h1", want: "h1f1 h1g1 h1h2 h1h3 h1h4 h1h5 h1h6 h1h7 h1h8"},
		// A man between, on each square, of either side.
		{text: "4k3/8/8/8/8/8/8/4KB1R", castle: 1, ep: "-", from: "e1", want: "e1d1 e1d2 e1e2 e1f2"},
		{text: "4k3/8/8/8/8/8/8/4Kn1R", castle: 1, ep: "-", from: "e1", want: near},
		{text: "4k3/8/8/8/8/8/8/4K1NR", castle: 1, ep: "-", from: "e1", want: near},
		{text: "4k3/8/8/8/8/8/8/4K1nR", castle: 1, ep: "-", from: "e1", want: near},
		{text: "4k3/8/8/8/8/8/8/RN2K3", castle: 2, ep: "-", from: "e1", want: near},
		{text: "4k3/8/8/8/8/8/8/Rn2K3", castle: 2, ep: "-", from: "e1", want: near},
		{text: "4k3/8/8/8/8/8/8/R1B1K3", castle: 2, ep: "-", from: "e1", want: near},
		{text: "4k3/8/8/8/8/8/8/R1b1K3", castle: 2, ep: "-", from: "e1", want: near},
		{text: "4k3/8/8/8/8/8/8/R2QK3", castle: 2, ep: "-", from: "e1", want: "e1f1 e1d2 e1e2 e1f2"},
		{text: "4k3/8/8/8/8/8/8/R2qK3", castle: 2, ep: "-", from: "e1", want: near},
		// A man on the other wing bars nothing.
		{text: "4k3/8/8/8/8/8/8/RNB1K2R", castle: 3, ep: "-", from: "e1", want: "e1d1 e1f1 e1g1 e1d2 e1e2 e1f2"},
		{text: "4k3/8/8/8/8/8/8/R3K1NR", castle: 3, ep: "-", from: "e1", want: "e1c1 e1d1 e1f1 e1d2 e1e2 e1f2"},
		// Who is in check, passes a struck square or goes to one isn't asked.
		{text: "4k3/8/8/8/8/8/4r3/R3K2R", castle: 3, ep: "-", from: "e1", want: "e1c1 e1d1 e1f1 e1g1 e1d2 e1e2 e1f2"},
		{text: "3rkr2/8/8/8/8/8/8/R3K2R", castle: 3, ep: "-", from: "e1", want: "e1c1 e1d1 e1f1 e1g1 e1d2 e1e2 e1f2"},
		{text: "1rr1k1r1/8/8/8/8/8/8/R3K2R", castle: 3, ep: "-", from: "e1", want: "e1c1 e1d1 e1f1 e1g1 e1d2 e1e2 e1f2"},
		// Two files to the side without castling: from elsewhere, with the other side's rights.
		{text: "r3k2r/8/8/8/8/8/8/R2K3R", castle: 12, ep: "-", from: "d1", want: "d1c1 d1e1 d1c2 d1d2 d1e2"},
		{text: "r3k2r/8/8/8/8/8/4K3/R6R", castle: 12, ep: "-", from: "e2", want: "e2d1 e2e1 e2f1 e2d2 e2f2 e2d3 e2e3 e2f3"},
		{text: "r3k2r/8/8/8/8/8/8/R5K1", castle: 12, ep: "-", from: "g1", want: "g1f1 g1h1 g1f2 g1g2 g1h2"},
		{text: "r3k2r/8/8/8/8/8/8/1K5R", castle: 12, ep: "-", from: "b1", want: "b1a1 b1c1 b1a2 b1b2 b1c2"},
		{text: "4K3/8/8/8/8/8/8/4k2r", turn: 0, ep: "-", from: "e8", want: "e8d7 e8e7 e8f7 e8d8 e8f8"},
	} {
		c.ask(t)
	}
	// Formed, and none castles: two files to the side, by kings and others from the king's home.
	for _, c := range []struct {
		text, moves string
		castle      int
	}{
		{free, "e1g1 e1c1 e1b1 e1g2 e1c2 e1e3 e1g3 e1c3", 12},
		{free, "e1b1 e1g2 e1c2 e1e3 e1g3 e1c3", 15},
		{"4k3/8/8/8/8/8/8/R1b1K1nR", "e1g1 e1c1", 3},
		{"6k1/8/8/8/8/8/3K4/R3N2R", "e1g1 e1c1", 0},
	} {
		p := at(t, c.text, 0, c.castle, "-")
		right(t, p)
		for _, m := range told(c.moves) {
			if !move.Formed(p, m) || !move.Formed(mirrored(p), mirroredMove(m)) {
				t.Error("Formed", show(p), m)
			}
			refused(t, p, m)
			refused(t, mirrored(p), mirroredMove(m))
		}
	}
}

// P10.1: a king that goes to a struck square, or stays in check; a man that leaves its king in check: who is in check doesn't matter.
func TestCheck(t *testing.T) {
	for _, c := range []goes{
		{text: "3rkr2/8/8/8/8/8/8/4K3", ep: "-", from: "e1", want: "e1d1 e1f1 e1d2 e1e2 e1f2"},
		{text: "4k3/8/8/8/8/8/4r3/4K3", ep: "-", from: "e1", want: "e1d1 e1f1 e1d2 e1e2 e1f2"},
		{text: "8/8/8/8/4k3/8/4K3/8", ep: "-", from: "e2", want: "e2d1 e2e1 e2f1 e2d2 e2f2 e2d3 e2e3 e2f3"},
		// It takes a man that is guarded.
		{text: "4k3/4r3/8/8/8/8/4q3/4K3", ep: "-", from: "e1", want: "e1d1 e1f1 e1d2 e1e2 e1f2"},
		// Pinned men.
		{text: "4k3/4r3/8/8/8/4N3/8/4K3", ep: "-", from: "e3", want: "e3d1 e3f1 e3c2 e3g2 e3c4 e3g4 e3d5 e3f5"},
		{text: "4k3/8/8/8/8/8/4B3/r1R1K3", ep: "-", from: "c1", want: "c1a1 c1b1 c1d1 c1c2 c1c3 c1c4 c1c5 c1c6 c1c7 c1c8"},
		{text: "4k3/8/8/8/7b/8/5P2/4K3", ep: "-", from: "f2", want: "f2f3 f2f4"},
		{text: "8/8/8/K2pP2r/8/8/8/7k", ep: "d6", from: "e5", want: "e5d6 e5e6"},
		// Others, while the king is in check, by one man and by two.
		{text: "4k3/4r3/8/8/8/8/P7/4K3", ep: "-", from: "a2", want: "a2a3 a2a4"},
		{text: "4k3/4r3/8/8/7b/8/8/N3K3", ep: "-", from: "a1", want: "a1c2 a1b3"},
		// Mate and stalemate don't end anything here.
		{text: "6rk/8/8/8/8/8/5nPP/6RK", ep: "-", from: "h2", want: "h2h3 h2h4"},
		{text: "k7/8/8/8/8/6q1/8/7K", ep: "-", from: "h1", want: "h1g1 h1g2 h1h2"},
	} {
		c.ask(t)
	}
}

// P10.1: no man goes by a move that takes the other king, formed or not: in a right position nobody strikes it.
func TestKingTaken(t *testing.T) {
	for _, c := range []struct{ text, moves string }{
		{"4k3/8/8/8/8/8/8/4K2R", "e1e8 h1e8"},
		{"4k3/4p3/4Q3/3P4/8/8/8/4K3", "e6e8 d5e8q d5e8n d5e8 e1e8"},
		{"8/8/3k4/3PN3/8/3B4/8/3RK3", "d5d6 e5d6 d3d6 d1d6 e1d6"},
	} {
		p := at(t, c.text, 0, 0, "-")
		right(t, p)
		for _, m := range told(c.moves) {
			refused(t, p, m)
			refused(t, mirrored(p), mirroredMove(m))
		}
	}
	// Where a man strikes it the position isn't right, and nothing is told.
	for text, m := range map[string]string{"7k/5N2/8/8/8/8/8/K7": "f7h8", "7k/8/8/8/3B4/8/8/1K6": "d4h8", "8/7k/6P1/8/8/8/8/K7": "g6h7", "8/8/8/8/8/8/8/Kk6": "a1b1"} {
		p := at(t, text, 0, 0, "-")
		refused(t, p, of(m))
		nothing(t, New(), p)
		nothing(t, New(), mirrored(p))
	}
	for _, p := range given(t) {
		for _, m := range New().All(p) {
			if abs(int(p.At[m.To])) == 6 {
				t.Error("takes the king", show(p), move.Text(m))
			}
		}
	}
}

func abs(n int) int { return max(n, -n) }

// named are right positions: with rights and without, free to castle and not, with pawns that went two squares, pawns on all ranks, in check and not.
func named(t *testing.T) []api.Pos {
	t.Helper()
	return []api.Pos{
		pos.First(),
		at(t, "4k3/8/8/8/8/8/8/4K3", 0, 0, "-"),
		at(t, "r3k2r/8/8/8/8/8/8/R3K2R", 0, 15, "-"),
		at(t, "r3k2r/8/8/8/8/8/8/R3K2R", 0, 0, "-"),
		at(t, "r3k2r/8/8/8/8/8/8/R3K2R", 0, 13, "-"),
		at(t, "r3k2r/8/8/8/8/8/8/R3K2R", 0, 6, "-"),
		at(t, "rn2kb1r/8/8/8/8/8/8/RN2KB1R", 0, 15, "-"),
		at(t, "r2qk2r/8/8/8/8/8/8/R2QK2R", 0, 15, "-"),
		at(t, "r3k2r/8/8/8/8/8/8/R1n1K1nR", 0, 15, "-"),
		at(t, "4k3/8/8/pPpPpPpP/PpPpPpPp/8/8/4K3", 0, 0, "c6"),
		at(t, "4k3/8/8/PpPpPpPp/pPpPpPpP/8/8/4K3", 0, 0, "h6"),
		at(t, "4k3/8/8/pP4Pp/8/8/8/4K3", 0, 0, "a6"),
		at(t, "r3k2r/1P4P1/2P5/P2pP3/3P4/1P6/P1p3p1/R3K2R", 0, 15, "d6"),
		at(t, "1n1qk1n1/P1P3P1/8/8/8/8/p1p4p/1N1QK1N1", 0, 0, "-"),
		at(t, "r3k2r/p1ppqpb1/bn2pnp1/3PN3/1p2P3/2N2Q1p/PPPBBPPP/R3K2R", 0, 15, "-"),
		at(t, "8/2p5/3p4/KP5r/1R3p1k/8/4P1P1/8", 0, 0, "-"),
		at(t, "4k3/8/8/8/8/8/4r3/R3K2R", 0, 3, "-"),
		at(t, "8/8/8/1k6/3Pp3/8/8/4KQ2", 1, 0, "d3"),
	}
}

// strewn are right positions that a plain row of numbers makes, with few men and many, rights and Ep wherever they are backed.
func strewn() []api.Pos {
	var out []api.Pos
	n := uint32(1)
	next := func(below int) int {
		n = n*1664525 + 1013904223
		return int(n>>8) % below
	}
	for len(out) < 300 {
		p := api.Pos{Turn: next(2), Ep: -1}
		for range 2 + next(24) {
			p.At[next(64)] = int8(next(11) - 5)
		}
		p.At[next(64)], p.At[next(64)] = 6, -6
		// Now and then kings and rooks at home, for the sake of the rights, and pawns beside each other, for that of Ep.
		if next(3) == 0 {
			p.At[4], p.At[7], p.At[0] = 6, 4, 4
		}
		if next(3) == 0 {
			file := next(7)
			p.At[32+file], p.At[33+file] = -1, 1
		}
		for _, right := range []int{1, 2, 4, 8} {
			if pos.Backed(p, right) {
				p.Castle += right
			}
		}
		for ep := range 64 {
			q := p
			q.Ep = ep
			if pos.Wrong(q) == api.OK {
				out = append(out, q)
			}
		}
		if pos.Wrong(p) == api.OK {
			out = append(out, p)
		}
	}
	return out
}

// given are all of these, each mirrored as well.
func given(t *testing.T) []api.Pos {
	t.Helper()
	var out []api.Pos
	for _, p := range append(named(t), strewn()...) {
		right(t, p)
		right(t, mirrored(p))
		out = append(out, p, mirrored(p))
	}
	return out
}

// emptyBetween is whether the squares between two of one line are.
func emptyBetween(b api.Board, from, to int) bool {
	files, ranks := to%8-from%8, to/8-from/8
	far := max(abs(files), abs(ranks))
	for i := 1; i < far; i++ {
		if b[from+i*(files/far+8*(ranks/far))] != 0 {
			return false
		}
	}
	return true
}

// castlings are the four: the right that they need, and the squares that have to be empty.
var castlings = map[api.Move]struct {
	right int
	empty []int
}{
	{From: 4, To: 6}:   {1, []int{5, 6}},
	{From: 4, To: 2}:   {2, []int{1, 2, 3}},
	{From: 60, To: 62}: {4, []int{61, 62}},
	{From: 60, To: 58}: {8, []int{57, 58, 59}},
}

// castles is what the chapters say of a king's move.
func castles(p api.Pos, m api.Move) bool {
	c, is := castlings[m]
	if !is || p.Castle/c.right%2 == 0 {
		return false
	}
	for _, s := range c.empty {
		if p.At[s] != 0 {
			return false
		}
	}
	return true
}

// pawnGoes is what the chapter says of a pawn's move, up being 1 for White, -1 for Black.
func pawnGoes(p api.Pos, m api.Move, up int) bool {
	files, ranks := m.To%8-m.From%8, (m.To/8-m.From/8)*up
	second := up == 1 && m.From/8 == 1 || up == -1 && m.From/8 == 6
	last := m.To/8 == 0 || m.To/8 == 7
	if last != (m.Promo >= 2 && m.Promo <= 5) || !last && m.Promo != 0 {
		return false
	}
	switch {
	case files == 0 && ranks == 1:
		return p.At[m.To] == 0
	case files == 0 && ranks == 2:
		return second && p.At[m.To] == 0 && p.At[(m.From+m.To)/2] == 0
	case abs(files) == 1 && ranks == 1:
		return int(p.At[m.To])*up < 0 || m.To == p.Ep
	}
	return false
}

// doesGo is what the chapter says of any move, asked for itself.
func doesGo(p api.Pos, m api.Move) bool {
	up := 1 - 2*p.Turn
	man := int(p.At[m.From]) * up
	if man <= 0 || int(p.At[m.To])*up > 0 {
		return false
	}
	if man == 1 {
		return pawnGoes(p, m, up)
	}
	files, ranks := abs(m.To%8-m.From%8), abs(m.To/8-m.From/8)
	straight, slant := files == 0 || ranks == 0, files == ranks
	if m.Promo != 0 {
		return false
	}
	switch man {
	case 2:
		return files*ranks == 2
	case 3:
		return slant && emptyBetween(p.At, m.From, m.To)
	case 4:
		return straight && emptyBetween(p.At, m.From, m.To)
	case 5:
		return (straight || slant) && emptyBetween(p.At, m.From, m.To)
	}
	return max(files, ranks) == 1 || castles(p, m)
}

// P10.1: each From, To and Promo, on each of the given positions: all moves, those from each square, and, of the named ones, whether each goes.
func TestEach(t *testing.T) {
	g := New()
	kinds := map[string]int{}
	byHand := 2 * len(named(t))
	for i, p := range given(t) {
		if t.Failed() {
			// What fails here fails often: one position's rows are enough.
			return
		}
		var all []api.Move
		for from := range 64 {
			var own []api.Move
			for to := range 64 {
				for promo := range 7 {
					m := api.Move{From: from, To: to, Promo: promo}
					is := doesGo(p, m)
					if is {
						own = append(own, m)
						tally(kinds, p, m)
					}
					asked := i < byHand && (promo == 0 || promo == 2 || promo == 5)
					if (is || asked) && g.Goes(p, m) != is {
						t.Error("Goes", show(p), m, is)
					}
				}
			}
			inOrder(own)
			if got := g.From(p, from); !slices.Equal(got, own) {
				t.Error("From", show(p), from, texts(got), "not", texts(own))
			}
			all = append(all, own...)
		}
		if got := g.All(p); !slices.Equal(got, all) {
			t.Error("All", show(p), texts(got), "not", texts(all))
		}
	}
	for _, kind := range []string{"castles", "in passing", "turns", "takes", "two ahead", "1", "2", "3", "4", "5", "6"} {
		if kinds[kind] < 20 {
			t.Error("few", kind, kinds[kind])
		}
	}
}

// tally counts what a move is, so that a test can tell whether it met enough of each.
func tally(kinds map[string]int, p api.Pos, m api.Move) {
	kind := abs(int(p.At[m.From]))
	kinds[fmt.Sprint(kind)]++
	for what, is := range map[string]bool{
		"castles":    kind == 6 && abs(m.To-m.From) == 2,
		"in passing": kind == 1 && m.To == p.Ep && m.From%8 != m.To%8,
		"turns":      m.Promo != 0,
		"takes":      p.At[m.To] != 0,
		"two ahead":  kind == 1 && abs(m.To-m.From) == 16,
	} {
		if is {
			kinds[what]++
		}
	}
}

// P10.1: what is told is in layer 9's order, without anything twice, and formed as that layer has it.
func TestOrder(t *testing.T) {
	g := New()
	for _, p := range given(t) {
		all := g.All(p)
		for i, m := range all {
			if i > 0 && !move.Less(all[i-1], m) {
				t.Error("order", show(p), move.Text(all[i-1]), move.Text(m))
			}
			if !move.Formed(p, m) {
				t.Error("formed", show(p), move.Text(m))
			}
		}
	}
	// All by hand, with castling ahead of a king's nearer square, and promos from the queen on.
	p := at(t, "1n2k3/P7/8/8/8/8/8/R3K3", 0, 2, "-")
	want := told("a1b1 a1c1 a1d1 a1a2 a1a3 a1a4 a1a5 a1a6 e1c1 e1d1 e1f1 e1d2 e1e2 e1f2 a7a8q a7a8r a7a8b a7a8n a7b8q a7b8r a7b8b a7b8n")
	if all := g.All(p); !slices.Equal(all, want) {
		t.Error("order", texts(all))
	}
}

// P10.1: numbers that are no squares.
func TestNoSquare(t *testing.T) {
	g := New()
	for _, p := range append(named(t), mirrored(named(t)[2]), mirrored(named(t)[12])) {
		for _, n := range noSquares {
			if from := g.From(p, n); len(from) != 0 {
				t.Error("From", show(p), n, texts(from))
			}
			for s := range 64 {
				for _, promo := range []int{0, 5} {
					if g.Goes(p, api.Move{From: n, To: s, Promo: promo}) || g.Goes(p, api.Move{From: s, To: n, Promo: promo}) {
						t.Error("Goes", show(p), n, s, promo)
					}
				}
			}
			if g.Goes(p, api.Move{From: n, To: n}) {
				t.Error("Goes", show(p), n)
			}
		}
	}
}

// P10.1: squares on which nobody stands, or a man of the side that isn't to move.
func TestNobody(t *testing.T) {
	g := New()
	for _, p := range given(t) {
		for s, man := range p.At {
			if int(man)*(1-2*p.Turn) > 0 {
				continue
			}
			if from := g.From(p, s); len(from) != 0 {
				t.Error("From", show(p), s, texts(from))
			}
		}
	}
	p := pos.First()
	for _, text := range []string{"e7e5", "e7e6", "b8c6", "g8f6", "e4e5", "d3d4", "a6b8", "e8e7", "a8a7"} {
		refused(t, p, of(text))
		refused(t, mirrored(p), mirroredMove(of(text)))
	}
}

// P10.1: moves that are formed and that no man goes, and moves that aren't formed, by hand.
func TestRefused(t *testing.T) {
	p := at(t, "r3k2r/P5p1/2n5/1B1pP3/3Q4/5N2/2P3PP/R3K2R", 0, 15, "d6")
	right(t, p)
	for _, text := range []string{
		// A man in the way, and ways that the man hasn't.
		"b5d7", "b5e8", "d4d6", "d4d8", "d4h5", "d4g7", "d4c6", "d4e6", "f3f4", "f3e4", "f3h5", "a1a8", "a1e8", "a1b2", "h1h8", "h1g3", "b5b6", "b5d5", "b5g1",
		"e1e3", "e1g3", "e1b1", "e1a8", "c2d3", "c2b3", "c2c5", "e5f6", "e5d5", "e5e7", "e5e4", "a7b8q", "a7b7", "a7a6", "a7a5", "g2g5", "g2f4", "h2g4",
	} {
		if !move.Formed(p, of(text)) {
			t.Error("Formed", text)
		}
		refused(t, p, of(text))
		refused(t, mirrored(p), mirroredMove(of(text)))
	}
	for _, text := range []string{
		// Nothing of these is formed: onto a man of its own, onto its own square, promos where there are none and none where there should be one.
		"e1a1", "e1h1", "a1e1", "h1e1", "h1h2", "a1a7", "f3h2", "f3g1q", "f3d4", "g2f3", "d4e5", "d4d4", "e1e1", "e5e5", "c2c4q", "c2c3n", "e5d6q", "e1g1q", "e1f1r", "d4d5q", "f3g5n", "a7a8", "a7a8k", "a7a8p",
	} {
		refused(t, p, of(text))
		refused(t, mirrored(p), mirroredMove(of(text)))
	}
	for _, m := range told("e5d6 e5e6 b5c6 b5a6 b5f1 d4d5 d4b6 d4a4 d4h4 d4g4 f3g5 e1g1 e1c1 e1f1 c2c4 c2c3 g2g3 h2h4 a1d1 a1a6 h1f1") {
		if !New().Goes(p, m) || !New().Goes(mirrored(p), mirroredMove(m)) {
			t.Error("Goes", move.Text(m))
		}
	}
}

// P10.1: positions that lack something, each by itself; the same position goes as soon as it is right.
func TestWrongPosition(t *testing.T) {
	g := New()
	p := at(t, "r3k2r/8/8/3pP3/8/8/5P2/R3K2R", 0, 15, "d6")
	right(t, p)
	if len(g.All(p)) == 0 || len(g.From(p, 4)) != 6 || !g.Goes(p, of("e1g1")) || !g.Goes(p, of("e5d6")) {
		t.Error("right", texts(g.All(p)))
	}
	for i, spoil := range []func(p *api.Pos){
		func(p *api.Pos) { p.At[40] = 7 },
		func(p *api.Pos) { p.At[40] = -128 },
		func(p *api.Pos) { p.At[40] = 6 },
		func(p *api.Pos) { p.At[60] = 0 },
		func(p *api.Pos) { p.At[4] = 0 },
		func(p *api.Pos) { p.At[1] = 1 },
		func(p *api.Pos) { p.At[57] = 1 },
		func(p *api.Pos) { copy(p.At[16:32], slices.Repeat([]int8{2}, 16)) },
		func(p *api.Pos) { p.Turn = 2 },
		func(p *api.Pos) { p.Turn = -1 },
		func(p *api.Pos) { p.Turn = math.MinInt },
		func(p *api.Pos) { p.Turn = math.MaxInt },
		func(p *api.Pos) { p.Castle = 16 },
		func(p *api.Pos) { p.Castle = 31 },
		func(p *api.Pos) { p.Castle = -1 },
		func(p *api.Pos) { p.Ep = -2 },
		func(p *api.Pos) { p.Ep = 64 },
		func(p *api.Pos) { p.Ep = math.MinInt },
		func(p *api.Pos) { p.Ep = 1<<32 + 43 },
		func(p *api.Pos) { p.At[51] = 1 },
		func(p *api.Pos) { p.At[52] = 4 },
		func(p *api.Pos) { p.At[60], p.At[11], p.Castle = 0, -6, 3 },
		func(p *api.Pos) { p.At[56] = 0 },
		func(p *api.Pos) { p.At[7] = 0 },
		func(p *api.Pos) { p.Ep = 44 },
		func(p *api.Pos) { p.Ep = 20 },
		func(p *api.Pos) { p.At[51] = -2 },
		func(p *api.Pos) { p.At[43] = -2 },
	} {
		q := p
		spoil(&q)
		if pos.Wrong(q) == api.OK {
			t.Error("spoilt", i)
		}
		nothing(t, g, q)
		// The mirror may mend numbers that are beyond their bounds.
		if pos.Wrong(mirrored(q)) != api.OK {
			nothing(t, g, mirrored(q))
		}
	}
	nothing(t, g, api.Pos{})
	nothing(t, g, api.Pos{Ep: -1})
	nothing(t, g, at(t, "4k3/8/8/8/8/8/8/4K3", 0, 15, "-"))
}

// P10.1: of a nil Gen nothing is told.
func TestNil(t *testing.T) {
	var g *Gen
	for _, p := range append(named(t), api.Pos{}) {
		nothing(t, g, p)
		for _, m := range New().All(p) {
			if g.Goes(p, m) || len(g.From(p, m.From)) != 0 {
				t.Error("nil", show(p), m)
			}
		}
	}
}

// spoil writes over a list, spare room included.
func spoil(moves []api.Move) {
	whole := moves[:cap(moves)]
	for i := range whole {
		whole[i] = api.Move{From: -9, To: -9, Promo: -9}
	}
}

// R4: what is answered is new memory; R5: what was asked ahead, also of another Gen, changes no answer.
func TestAnswersAreNew(t *testing.T) {
	g, other := New(), New()
	for _, p := range named(t) {
		kept := p
		all := slices.Clone(g.All(p))
		for s := range 64 {
			from := slices.Clone(g.From(p, s))
			first, second := g.From(p, s), other.From(p, s)
			spoil(first)
			if !slices.Equal(second, from) {
				t.Error("shared", show(p), s)
			}
			spoil(second)
			if !slices.Equal(g.From(p, s), from) {
				t.Error("spoilt", show(p), s)
			}
		}
		first := g.All(p)
		spoil(first)
		if !slices.Equal(g.All(p), all) || !slices.Equal(other.All(p), all) || p != kept {
			t.Error("again", show(p))
		}
	}
}
