package note

import (
	"fmt"
	"math"
	"slices"
	"strings"
	"testing"

	"alfil/api"
	"alfil/forsyth"
	"alfil/legal"
	"alfil/move"
	"alfil/pos"
)

// noSquares are numbers that are none; some of them would be one if they were cut to fewer bits, or their sign were lost.
var noSquares = []int{-1, -2, -4, -12, -63, -64, 64, 65, 68, 127, 128, 255, 256, 256 + 4, 256 + 12, 1<<16 + 12, 1 << 32, 1<<32 + 4, 1<<32 + 12, 1<<32 - 1, math.MinInt32, math.MaxInt32, math.MinInt + 1, math.MinInt, math.MaxInt - 1, math.MaxInt}

// noPromos are numbers that nothing turns into, likewise.
var noPromos = []int{-1, -2, -5, -6, 1, 6, 7, 8, 13, 256 + 5, 1<<16 + 5, 1<<32 + 5, math.MinInt32, math.MaxInt32, math.MinInt, math.MaxInt}

// place is the number of a square's name, found by its signs' places.
func place(name string) int {
	return strings.IndexByte("12345678", name[1])*8 + strings.IndexByte("abcdefgh", name[0])
}

// at is a position of a Forsyth text; ep is a square's name, or "-".
func at(t *testing.T, text string, turn, castle int, ep string) api.Pos {
	t.Helper()
	b, _, e := forsyth.Read(text)
	if e != api.OK {
		t.Fatal(text, e)
	}
	s := -1
	if ep != "-" && ep != "" {
		s = place(ep)
	}
	return api.Pos{At: b, Turn: turn, Castle: castle, Ep: s}
}

// of is the move of two names and a letter, of which none need be a move's.
func of(text string) api.Move {
	m := api.Move{From: place(text[:2]), To: place(text[2:4])}
	if len(text) > 4 {
		m.Promo = strings.IndexByte("?pnbrqk", text[4])
	}
	return m
}

// path are the moves of texts between blanks.
func path(texts string) []api.Move {
	var out []api.Move
	for _, text := range strings.Fields(texts) {
		out = append(out, of(text))
	}
	return out
}

// mirrored is a position as the other side sees it, put together rank by rank.
func mirrored(p api.Pos) api.Pos {
	q := api.Pos{Turn: 1 - p.Turn, Castle: p.Castle%4*4 + p.Castle/4, Ep: -1}
	for s, m := range p.At {
		q.At[s^56] = -m
	}
	if p.Ep >= 0 {
		q.Ep = p.Ep ^ 56
	}
	return q
}

func mirroredMove(m api.Move) api.Move {
	return api.Move{From: m.From ^ 56, To: m.To ^ 56, Promo: m.Promo}
}

func mirroredPath(path []api.Move) []api.Move {
	var out []api.Move
	for _, m := range path {
		out = append(out, mirroredMove(m))
	}
	return out
}

// mirroredNote is the note of the mirrored move: just the ranks are others.
func mirroredNote(note string) string {
	return strings.NewReplacer("1", "8", "2", "7", "3", "6", "4", "5", "5", "4", "6", "3", "7", "2", "8", "1").Replace(note)
}

// show is a position, short enough to be read where a test fails.
func show(p api.Pos) string {
	text, _ := forsyth.Write(p.At)
	return fmt.Sprint(text, " ", p.Turn, p.Castle, p.Ep)
}

// texts are a path's moves, likewise.
func texts(path []api.Move) string {
	var out []string
	for _, m := range path {
		out = append(out, move.Text(m))
	}
	return strings.Join(out, " ")
}

// right fails where a position that a test wants to be right isn't.
func right(t *testing.T, p api.Pos) {
	t.Helper()
	if e := pos.Wrong(p); e != api.OK {
		t.Fatal("right", show(p), e)
	}
}

// bareOf is a note without its mark.
func bareOf(note string) string { return strings.TrimRight(note, "+#") }

// notes asks for a move's notes, and reads the short one with its mark and without, and with each that isn't its own.
func notes(t *testing.T, p api.Pos, m api.Move, short, long string) {
	t.Helper()
	if s, e := Short(p, m); s != short || e != api.OK {
		t.Errorf("Short %s %s: %q %d, not %q", show(p), move.Text(m), s, e, short)
	}
	if l, e := Long(p, m); l != long || e != api.OK {
		t.Errorf("Long %s %s: %q %d, not %q", show(p), move.Text(m), l, e, long)
	}
	if l, e := Line(p, []api.Move{m}); !slices.Equal(l, []string{short}) || e != api.OK {
		t.Errorf("Line %s %s: %q %d, not %q", show(p), move.Text(m), l, e, short)
	}
	reads(t, p, short, m)
	reads(t, p, bareOf(short), m)
	for _, mark := range []string{"+", "#", "++", "##", "+#", "#+", "!", "?", "=", " ", "+ ", "# ", "+!", "mate"} {
		if bareOf(short)+mark != short {
			unread(t, p, bareOf(short)+mark)
		}
		unread(t, p, short+mark+mark)
	}
}

// reads asks for the move of a text that is a note.
func reads(t *testing.T, p api.Pos, text string, want api.Move) {
	t.Helper()
	if m, e := Read(p, text); m != want || e != api.OK {
		t.Errorf("Read %s %q: %s %d, not %s", show(p), text, move.Text(m), e, move.Text(want))
	}
}

// unread asks for the move of a text that is no note of a right position.
func unread(t *testing.T, p api.Pos, text string) {
	t.Helper()
	if m, e := Read(p, text); m != (api.Move{}) || e != api.ErrNone {
		t.Errorf("Read %s %.40q: %s %d", show(p), text, move.Text(m), e)
	}
}

// written is a position, with some moves and their notes, short and long, by hand.
type written struct {
	text         string
	turn, castle int
	ep, notes    string
}

// ask asks for all of these, and the same of the mirrored position.
func (w written) ask(t *testing.T) {
	t.Helper()
	p := at(t, w.text, w.turn, w.castle, w.ep)
	right(t, p)
	for _, one := range strings.Split(w.notes, ",") {
		parts := strings.Fields(one)
		m := of(parts[0])
		notes(t, p, m, parts[1], parts[2])
		notes(t, mirrored(p), mirroredMove(m), mirroredNote(parts[1]), mirroredNote(parts[2]))
	}
}

// P13.1: the first position, all of its moves, and those of Black there.
func TestFirst(t *testing.T) {
	written{text: "rnbqkbnr/pppppppp/8/8/8/8/PPPPPPPP/RNBQKBNR", castle: 15, notes: "b1a3 Na3 Nb1-a3,b1c3 Nc3 Nb1-c3,g1f3 Nf3 Ng1-f3,g1h3 Nh3 Ng1-h3," +
		"a2a3 a3 a2-a3,a2a4 a4 a2-a4,b2b3 b3 b2-b3,b2b4 b4 b2-b4,c2c3 c3 c2-c3,c2c4 c4 c2-c4,d2d3 d3 d2-d3,d2d4 d4 d2-d4," +
		"e2e3 e3 e2-e3,e2e4 e4 e2-e4,f2f3 f3 f2-f3,f2f4 f4 f2-f4,g2g3 g3 g2-g3,g2g4 g4 g2-g4,h2h3 h3 h2-h3,h2h4 h4 h2-h4"}.ask(t)
}

// P13.1: men of every kind, going and taking, with check, mate, and neither.
func TestKinds(t *testing.T) {
	for _, w := range []written{
		{text: "r1bqkb1r/pppp1ppp/2n2n2/4p2Q/2B1P3/8/PPPP1PPP/RNB1K1NR", castle: 15, notes: "h5f7 Qxf7# Qh5xf7#,c4f7 Bxf7+ Bc4xf7+,h5e5 Qxe5+ Qh5xe5+,h5h7 Qxh7 Qh5xh7,h5d1 Qd1 Qh5-d1," +
			"c4d5 Bd5 Bc4-d5,e1d1 Kd1 Ke1-d1,e1e2 Ke2 Ke1-e2,g1e2 Ne2 Ng1-e2,b1a3 Na3 Nb1-a3,f2f4 f4 f2-f4,d2d3 d3 d2-d3"},
		{text: "r1bqkb1r/pppp1ppp/2n2n2/4p2Q/2B1P3/8/PPPP1PPP/RNB1K1NR", turn: 1, castle: 15, notes: "f6h5 Nxh5 Nf6xh5,f6e4 Nxe4 Nf6xe4,f8b4 Bb4 Bf8-b4,d8e7 Qe7 Qd8-e7,e8e7 Ke7 Ke8-e7,h8g8 Rg8 Rh8-g8," +
			"a8b8 Rb8 Ra8-b8,c6d4 Nd4 Nc6-d4,d7d5 d5 d7-d5,g7g6 g6 g7-g6"},
		// A king takes; it uncovers a check, or stays in the way.
		{text: "4k3/8/8/8/8/8/3p4/4K3", notes: "e1d2 Kxd2 Ke1xd2,e1d1 Kd1 Ke1-d1"},
		{text: "4k3/8/8/8/4K3/8/8/4R3", notes: "e4d5 Kd5+ Ke4-d5+,e4f4 Kf4+ Ke4-f4+,e4e5 Ke5 Ke4-e5,e1e2 Re2 Re1-e2,e1a1 Ra1 Re1-a1"},
		{text: "k7/P7/8/1K6/8/8/8/8", notes: "b5b6 Kb6 Kb5-b6,b5a6 Ka6 Kb5-a6"},
		{text: "7k/8/8/8/8/8/8/K7", notes: "a1a2 Ka2 Ka1-a2,a1b1 Kb1 Ka1-b1,a1b2 Kb2 Ka1-b2"},
		// A pawn gives check, uncovers one by taking, and hides it by going on; it mates, going and taking.
		{text: "8/4k3/8/3P4/8/8/8/4K3", notes: "d5d6 d6+ d5-d6+"},
		{text: "4k3/8/8/3p4/4P3/8/8/K3R3", notes: "e4d5 exd5+ e4xd5+,e4e5 e5 e4-e5"},
		{text: "rn6/kp6/p7/PP6/8/8/8/K7", notes: "b5b6 b6# b5-b6#,b5a6 bxa6 b5xa6"},
		{text: "rn6/kp6/pn6/P1P5/8/8/8/K7", notes: "a5b6 axb6# a5xb6#,c5b6 cxb6# c5xb6#,c5c6 c6 c5-c6"},
		// Rooks and bishops.
		{text: "7k/R7/5PK1/8/8/8/8/8", notes: "a7a8 Ra8# Ra7-a8#,a7h7 Rh7+ Ra7-h7+,a7g7 Rg7 Ra7-g7,f6f7 f7 f6-f7,g6f7 Kf7 Kg6-f7"},
		{text: "6rk/6pp/7P/8/8/8/8/B6K", notes: "a1g7 Bxg7+ Ba1xg7+,h6g7 hxg7+ h6xg7+,a1f6 Bf6 Ba1-f6"},
		{text: "4k3/8/8/8/8/8/r7/R6K", notes: "a1a2 Rxa2 Ra1xa2,a1e1 Re1+ Ra1-e1+"},
		// Stalemate has neither mark.
		{text: "k7/8/8/1Q6/8/8/8/K7", notes: "b5b6 Qb6 Qb5-b6,b5a5 Qa5+ Qb5-a5+,b5e8 Qe8+ Qb5-e8+,b5d7 Qd7 Qb5-d7"},
		{text: "k7/1p6/8/1K6/8/8/8/1Q6", notes: "b5b6 Kb6 Kb5-b6,b1h1 Qh1 Qb1-h1,b1a2 Qa2+ Qb1-a2+"},
	} {
		w.ask(t)
	}
	// Behind the first Black is stalemate, behind the second mate.
	for _, c := range []struct {
		text, m, note string
		mate          bool
	}{{"k7/8/8/1Q6/8/8/8/K7", "b5b6", "Qb6", false}, {"k7/2P5/1K6/8/8/8/8/8", "c7c8q", "c8=Q#", true}} {
		p := at(t, c.text, 0, 0, "-")
		q, _ := move.Make(p, of(c.m))
		if rules := legal.New(); rules.Stale(q) == c.mate || rules.Mate(q) != c.mate {
			t.Error("ends", show(q))
		}
		if s, e := Short(p, of(c.m)); s != c.note || e != api.OK {
			t.Error("Short", show(p), s, e)
		}
	}
}

// P13.1: castling, of either side, to either side, with check and mate behind it; the same king's and rook's other moves.
func TestCastling(t *testing.T) {
	for _, w := range []written{
		{text: "r3k2r/8/8/8/8/8/8/R3K2R", castle: 15, notes: "e1g1 O-O O-O,e1c1 O-O-O O-O-O,e1f1 Kf1 Ke1-f1,e1d1 Kd1 Ke1-d1,h1f1 Rf1 Rh1-f1,a1d1 Rd1 Ra1-d1,h1g1 Rg1 Rh1-g1,h1h8 Rxh8+ Rh1xh8+,a1a8 Rxa8+ Ra1xa8+"},
		{text: "r3k2r/8/8/8/8/8/8/R3K2R", turn: 1, castle: 15, notes: "e8g8 O-O O-O,e8c8 O-O-O O-O-O,e8f8 Kf8 Ke8-f8,a8d8 Rd8 Ra8-d8,h8h1 Rxh1+ Rh8xh1+"},
		{text: "5k2/8/8/8/8/8/8/4K2R", castle: 1, notes: "e1g1 O-O+ O-O+,h1f1 Rf1+ Rh1-f1+,h1g1 Rg1 Rh1-g1"},
		{text: "3k4/8/8/8/8/8/8/R3K3", castle: 2, notes: "e1c1 O-O-O+ O-O-O+,a1d1 Rd1+ Ra1-d1+"},
		{text: "5k2/8/8/8/8/8/4R1R1/4K2R", castle: 1, notes: "e1g1 O-O# O-O#,h1f1 Rf1# Rh1-f1#,h1h8 Rh8+ Rh1-h8+,e2f2 Ref2+ Re2-f2+,g2f2 Rgf2+ Rg2-f2+,h1g1 Rhg1 Rh1-g1"},
		{text: "3k4/8/8/8/8/8/2R1R3/R3K3", castle: 2, notes: "e1c1 O-O-O# O-O-O#,a1d1 Rd1# Ra1-d1#"},
		// The rook that castled is struck on its way, the king isn't.
		{text: "1r2k3/8/8/8/8/8/8/R3K3", castle: 2, notes: "e1c1 O-O-O O-O-O"},
	} {
		w.ask(t)
	}
	p := at(t, "r3k2r/8/8/8/8/8/8/R3K2R", 0, 15, "-")
	for _, p := range []api.Pos{p, mirrored(p)} {
		for _, text := range []string{"O", "O-", "O-O-", "O-O-O-", "O-O-O-O", "OO", "OOO", "0-0", "0-0-0", "o-o", "o-o-o", "O-0", "O–O", "-O-O", "Kg1", "Kc1", "Kg8", "Kc8", "Ke1-g1", "e1g1", "KO-O", "O-O+", "O-O-O+", "O-O#", "O-O-O#", "O-O++", "O-O=Q", "xO-O"} {
			unread(t, p, text)
		}
	}
}

// P13.1: without the right, or where the king would be struck, O-O and O-O-O are no notes.
func TestCastlingRead(t *testing.T) {
	for _, c := range []struct {
		text      string
		castle    int
		near, far bool
	}{
		{"4k3/8/8/8/8/8/8/R3K2R", 0, false, false},
		{"4k3/8/8/8/8/8/8/R3K2R", 1, true, false},
		{"4k3/8/8/8/8/8/8/R3K2R", 2, false, true},
		{"4k3/8/8/8/8/8/8/R3K2R", 3, true, true},
		{"4k1r1/8/8/8/8/8/8/R3K2R", 3, false, true},
		{"3rk3/8/8/8/8/8/8/R3K2R", 3, true, false},
		{"4k3/8/8/8/8/8/4r3/R3K2R", 3, false, false},
		{"4k3/8/8/8/8/8/8/RN2K1NR", 3, false, false},
	} {
		p := at(t, c.text, 0, c.castle, "-")
		right(t, p)
		for _, one := range []struct {
			text string
			m    api.Move
			is   bool
		}{{"O-O", of("e1g1"), c.near}, {"O-O-O", of("e1c1"), c.far}} {
			if one.is {
				notes(t, p, one.m, one.text, one.text)
				notes(t, mirrored(p), mirroredMove(one.m), one.text, one.text)
				continue
			}
			unread(t, p, one.text)
			unread(t, mirrored(p), one.text)
			refused(t, p, one.m)
			refused(t, mirrored(p), mirroredMove(one.m))
		}
	}
}

// P13.1: a pawn that takes has its file, also in passing, and where no other pawn takes there; one that goes on its file has none.
func TestPawns(t *testing.T) {
	for _, w := range []written{
		{text: "4k3/8/8/3p4/2P1P3/8/8/4K3", notes: "c4d5 cxd5 c4xd5,e4d5 exd5 e4xd5,c4c5 c5 c4-c5,e4e5 e5 e4-e5"},
		{text: "4k3/8/8/3p4/2P5/8/8/4K3", notes: "c4d5 cxd5 c4xd5,c4c5 c5 c4-c5"},
		{text: "4k3/8/8/1p1p4/2P5/8/8/4K3", notes: "c4d5 cxd5 c4xd5,c4b5 cxb5 c4xb5,c4c5 c5 c4-c5"},
		{text: "4k3/8/8/3pP3/8/8/8/4K3", ep: "d6", notes: "e5d6 exd6 e5xd6,e5e6 e6 e5-e6"},
		{text: "4k3/8/8/2PpP3/8/8/8/4K3", ep: "d6", notes: "e5d6 exd6 e5xd6,c5d6 cxd6 c5xd6,c5c6 c6 c5-c6,e5e6 e6 e5-e6"},
		{text: "8/4k3/8/3pP3/8/8/8/4K3", ep: "d6", notes: "e5d6 exd6+ e5xd6+,e5e6 e6 e5-e6"},
		{text: "3rkr2/2R5/8/3pP3/8/8/8/K3R3", ep: "d6", notes: "e5d6 exd6# e5xd6#,e5e6 e6 e5-e6,c7c1 Rcc1 Rc7-c1,e1c1 Rec1 Re1-c1,c7e7 Re7+ Rc7-e7+"},
		// One of two pawns alone takes in passing, as the other one is held: it has its file all the same.
		{text: "4r1k1/8/8/2PpP3/8/8/8/4K3", ep: "d6", notes: "c5d6 cxd6 c5xd6,e5e6 e6 e5-e6"},
		// A pawn's file, and a bishop's letter.
		{text: "4k3/8/8/2p5/1P1B4/8/8/4K3", notes: "b4c5 bxc5 b4xc5,d4c5 Bxc5 Bd4xc5,b4b5 b5 b4-b5,d4b2 Bb2 Bd4-b2"},
		{text: "4k3/8/8/8/8/p1p5/1P6/B3K3", notes: "b2a3 bxa3 b2xa3,b2c3 bxc3 b2xc3,b2b3 b3 b2-b3,b2b4 b4 b2-b4"},
	} {
		w.ask(t)
	}
	for _, c := range []struct{ text, ep, none string }{
		{"4k3/8/8/3pP3/8/8/8/4K3", "-", "exd6 d6 ed6 e5xd6 exd6+ exd5"},
		{"4k3/8/8/3pP3/8/8/8/4K3", "d6", "d6 ed6 xd6 e5xd6 e5d6 exd6+ exd6# exd6=Q Exd6 dxe6 ee6 e5e6 exe6"},
		{"4r1k1/8/8/2PpP3/8/8/8/4K3", "d6", "exd6 d6 xd6 cd6"},
		{"7k/8/8/K2pP2r/8/8/8/8", "d6", "exd6 d6 xd6"},
		{"4k3/8/8/3p4/2P1P3/8/8/4K3", "-", "d5 xd5 cd5 c4xd5 c4d5 dxc4 dxd5 cxd6 cxb5 cc5 c4c5 e6"},
	} {
		p := at(t, c.text, 0, 0, c.ep)
		right(t, p)
		for _, none := range strings.Fields(c.none) {
			unread(t, p, none)
			unread(t, mirrored(p), mirroredNote(none))
		}
	}
}

// P13.1: a pawn turns into each of the four men, with and without taking, with check, mate, and neither.
func TestPromos(t *testing.T) {
	for _, w := range []written{
		{text: "k7/2P5/1K6/8/8/8/8/8", notes: "c7c8q c8=Q# c7-c8=Q#,c7c8r c8=R# c7-c8=R#,c7c8b c8=B c7-c8=B,c7c8n c8=N c7-c8=N"},
		{text: "1n6/P7/3k4/8/8/8/8/4K3", notes: "a7a8q a8=Q a7-a8=Q,a7a8r a8=R a7-a8=R,a7a8b a8=B a7-a8=B,a7a8n a8=N a7-a8=N,a7b8q axb8=Q+ a7xb8=Q+,a7b8r axb8=R a7xb8=R,a7b8b axb8=B+ a7xb8=B+,a7b8n axb8=N a7xb8=N"},
		{text: "1n6/P2k4/8/8/8/8/8/4K3", notes: "a7b8q axb8=Q a7xb8=Q,a7b8n axb8=N+ a7xb8=N+"},
		{text: "6br/5Ppk/7p/8/8/8/8/4K3", notes: "f7f8q f8=Q f7-f8=Q,f7f8r f8=R f7-f8=R,f7f8b f8=B f7-f8=B,f7f8n f8=N# f7-f8=N#,f7g8q fxg8=Q+ f7xg8=Q+,f7g8r fxg8=R f7xg8=R,f7g8b fxg8=B+ f7xg8=B+,f7g8n fxg8=N f7xg8=N"},
		{text: "3r2k1/2P2ppp/8/8/8/8/8/4K3", notes: "c7d8q cxd8=Q# c7xd8=Q#,c7d8r cxd8=R# c7xd8=R#,c7d8b cxd8=B c7xd8=B,c7d8n cxd8=N c7xd8=N,c7c8q c8=Q c7-c8=Q"},
		{text: "1n1r1n2/2P1P3/8/7k/8/8/8/4K3", notes: "c7d8q cxd8=Q c7xd8=Q,e7d8q exd8=Q e7xd8=Q,c7b8n cxb8=N c7xb8=N,e7f8b exf8=B e7xf8=B,e7e8q e8=Q+ e7-e8=Q+"},
		// A man that stood there already isn't told apart from what a pawn turns into.
		{text: "8/P6k/8/Q7/8/8/8/4K3", notes: "a7a8q a8=Q a7-a8=Q,a5a6 Qa6 Qa5-a6,a5d8 Qd8 Qa5-d8"},
		{text: "1n6/P7/N7/7k/8/8/8/4K3", notes: "a7b8n axb8=N a7xb8=N,a6b8 Nxb8 Na6xb8"},
	} {
		w.ask(t)
	}
}

// P13.1: men of the same kind that go to one square: told apart by the file, by the rank where one of these stands on the file, by the name where one stands on the file and one on the rank.
func TestApart(t *testing.T) {
	for _, w := range []written{
		// By the file: on one rank, on none in common, and taking.
		{text: "4k3/8/8/8/8/5N2/8/1N2K3", notes: "b1d2 Nbd2 Nb1-d2,f3d2 Nfd2 Nf3-d2,b1c3 Nc3 Nb1-c3,f3g1 Ng1 Nf3-g1"},
		{text: "R6R/8/8/8/2k5/8/8/4K3", notes: "a8d8 Rad8 Ra8-d8,h8d8 Rhd8 Rh8-d8,a8c8 Rac8+ Ra8-c8+,h8c8 Rhc8+ Rh8-c8+,a8a4 Ra4+ Ra8-a4+,h8h1 Rh1 Rh8-h1"},
		{text: "3r3k/8/8/8/8/8/8/R2R1K2", notes: "d1d8 Rxd8+ Rd1xd8+,a1a8 Ra8 Ra1-a8,a1c1 Rac1 Ra1-c1,d1c1 Rdc1 Rd1-c1,d1d2 Rd2 Rd1-d2"},
		{text: "3r4/6k1/8/8/8/8/8/K2R3R", notes: "d1d8 Rxd8 Rd1xd8,h1h2 Rh2 Rh1-h2,d1f1 Rdf1 Rd1-f1,h1f1 Rhf1 Rh1-f1"},
		{text: "7k/8/8/3n4/2B1B3/8/2B1B3/7K", notes: "c4d5 Bcxd5 Bc4xd5,e4d5 Bexd5 Be4xd5,c2d1 Bcd1 Bc2-d1,e2d1 Bed1 Be2-d1,c2b3 B2b3 Bc2-b3,c4b3 B4b3 Bc4-b3,c2d3 Bc2d3 Bc2-d3,e4d3 Be4d3 Be4-d3,c2a4 Ba4 Bc2-a4"},
		// By the rank.
		{text: "6k1/8/8/6N1/8/8/8/1K4N1", notes: "g1f3 N1f3 Ng1-f3,g5f3 N5f3 Ng5-f3,g1h3 N1h3 Ng1-h3,g5h3 N5h3 Ng5-h3,g5e6 Ne6 Ng5-e6,g1e2 Ne2 Ng1-e2"},
		{text: "7k/8/8/R7/8/8/8/R5K1", notes: "a1a3 R1a3 Ra1-a3,a5a3 R5a3 Ra5-a3,a5a8 Ra8+ Ra5-a8+,a5h5 Rh5+ Ra5-h5+"},
		// By all three, among queens, bishops, knights.
		{text: "5k2/8/8/8/8/8/Q6Q/Q5K1", notes: "a2b2 Qa2b2 Qa2-b2,a1b2 Q1b2 Qa1-b2,h2b2 Qhb2 Qh2-b2,a1e5 Qae5 Qa1-e5,h2e5 Qhe5 Qh2-e5,a1h8 Qah8+ Qa1-h8+,h2h8 Qhh8+ Qh2-h8+,a2b1 Q2b1 Qa2-b1,a1b1 Q1b1 Qa1-b1,a2a8 Qa8+ Qa2-a8+"},
		{text: "4k3/8/8/8/8/2B5/8/2B1B2K", notes: "c1d2 Bc1d2 Bc1-d2,c3d2 B3d2 Bc3-d2,e1d2 Bed2 Be1-d2,c1b2 B1b2 Bc1-b2,c3b2 B3b2 Bc3-b2,e1f2 Bf2 Be1-f2"},
		{text: "k7/8/8/1N1N4/8/2p5/8/1N1N3K", notes: "b1c3 Nb1xc3 Nb1xc3,d1c3 Nd1xc3 Nd1xc3,b5c3 Nb5xc3 Nb5xc3,d5c3 Nd5xc3 Nd5xc3,b5c7 Nbc7+ Nb5-c7+,d5c7 Ndc7+ Nd5-c7+,b1a3 N1a3 Nb1-a3,b5a3 N5a3 Nb5-a3,d5b6 Nb6+ Nd5-b6+"},
		// Their marks differ.
		{text: "8/8/8/1k6/8/8/2R5/R1RK4", notes: "a1b1 Rab1+ Ra1-b1+,c1b1 Rcb1# Rc1-b1#,a1a2 Raa2 Ra1-a2,c2a2 Rca2 Rc2-a2,c2b2 Rb2# Rc2-b2#"},
	} {
		w.ask(t)
	}
}

// P13.1: who need not be told apart: men of another kind, or the other side's, or that may not go there, as their king would be left in check.
func TestNotApart(t *testing.T) {
	for _, w := range []written{
		{text: "R7/8/7k/8/8/8/8/Q3K3", notes: "a1a4 Qa4 Qa1-a4,a8a4 Ra4 Ra8-a4,a1a6 Qa6+ Qa1-a6+,a8a6 Ra6+ Ra8-a6+"},
		{text: "4k3/8/8/3n4/8/8/8/1N2K3", notes: "b1c3 Nc3 Nb1-c3"},
		{text: "7k/8/8/8/b7/8/R7/R6K", notes: "a2a4 Rxa4 Ra2xa4,a1b1 Rb1 Ra1-b1,a2b2 Rb2 Ra2-b2"},
		// Held on a file, a slant line, and a rank.
		{text: "4kr2/8/8/8/8/5N2/8/1N3K2", notes: "b1d2 Nd2 Nb1-d2"},
		{text: "7k/8/8/8/b7/8/2R5/3K1R2", notes: "f1f2 Rf2 Rf1-f2"},
		{text: "3qk3/8/8/8/8/8/3Q4/3K3Q", notes: "h1h2 Qh2 Qh1-h2,d2d5 Qdd5 Qd2-d5,h1d5 Qhd5 Qh1-d5,d2d8 Qxd8+ Qd2xd8+,h1h4 Qh4 Qh1-h4"},
		{text: "7k/8/8/8/5N2/8/8/r1N4K", notes: "f4e2 Ne2 Nf4-e2,f4d3 Nd3 Nf4-d3"},
		// Held, it still goes along its line, and is told apart there.
		{text: "3rk3/8/8/R7/8/3R4/8/3K4", notes: "a5d5 Rad5 Ra5-d5,d3d5 Rdd5 Rd3-d5,a5a3 Ra3 Ra5-a3"},
		{text: "4k3/8/8/8/1b6/8/3N4/4K1N1", notes: "g1f3 Nf3 Ng1-f3,g1e2 Ne2 Ng1-e2"},
	} {
		w.ask(t)
	}
}

// named are right positions with men of every kind of either side, in check and not, either side's to move.
func named(t *testing.T) []api.Pos {
	t.Helper()
	var out []api.Pos
	for _, p := range []api.Pos{
		pos.First(),
		at(t, "4k3/8/8/8/8/8/8/4K3", 0, 0, "-"),
		at(t, "r3k2r/8/8/8/8/8/8/R3K2R", 0, 15, "-"),
		at(t, "4k3/8/8/8/8/8/4r3/R3K2R", 0, 3, "-"),
		at(t, "4k3/8/8/pPpPpPpP/PpPpPpPp/8/8/4K3", 0, 0, "c6"),
		at(t, "7k/8/8/K2pP2r/8/8/8/8", 0, 0, "d6"),
		at(t, "1n2kn2/P1P3P1/8/8/8/8/p1p3p1/1N2KN2", 0, 0, "-"),
		at(t, "r3k2r/1P4P1/2P5/P2pP3/3P4/1P6/P1p3p1/R3K2R", 0, 15, "d6"),
		at(t, "r3k2r/p1ppqpb1/bn2pnp1/3PN3/1p2P3/2N2Q1p/PPPBBPPP/R3K2R", 0, 15, "-"),
		at(t, "8/8/8/1k6/3Pp3/8/8/4KQ2", 1, 0, "d3"),
		at(t, "8/1p6/2k5/2n5/2B5/5K2/6R1/q7", 1, 0, "-"),
		at(t, "5k2/8/8/8/8/8/Q6Q/Q5K1", 0, 0, "-"),
		at(t, "7k/8/8/3n4/2B1B3/8/2B1B3/7K", 0, 0, "-"),
		at(t, "k7/8/2N1N3/1N3N2/3n4/1N3N2/2N1N3/7K", 0, 0, "-"),
		at(t, "1q1q1k2/3q4/1q5q/8/3P4/1q3q2/8/K7", 0, 0, "-"),
		at(t, "R2Q3R/8/2R5/3p1k2/8/2RR4/8/K2R4", 1, 0, "-"),
		at(t, "k1K5/p7/P7/8/8/8/8/8", 0, 0, "-"),
		at(t, "8/8/8/8/8/2k5/1q6/K7", 0, 0, "-"),
		at(t, "8/8/8/8/8/1k6/2q5/K7", 0, 0, "-"),
	} {
		right(t, p)
		right(t, mirrored(p))
		out = append(out, p, mirrored(p))
	}
	return out
}

// walked are the positions met by going on from one, each time by another of the legal moves.
func walked(p api.Pos, steps, by int) []api.Pos {
	rules := legal.New()
	out := []api.Pos{p}
	for i := range steps {
		moves := rules.Moves(p)
		if len(moves) == 0 {
			break
		}
		p, _ = move.Make(p, moves[(i*i+by)*7919%len(moves)])
		out = append(out, p)
	}
	return out
}

// nameOf is a square's name, by its signs' places.
func nameOf(s int) string { return "abcdefgh"[s%8:s%8+1] + "12345678"[s/8:s/8+1] }

// kindOf is the kind of the man that goes.
func kindOf(p api.Pos, m api.Move) int { return int(max(p.At[m.From], -p.At[m.From])) }

// markBehind is a legal move's + or #.
func markBehind(p api.Pos, m api.Move) string {
	rules := legal.New()
	q, _ := rules.Play(p, m)
	switch {
	case !rules.Check(q):
		return ""
	case len(rules.Moves(q)) > 0:
		return "+"
	}
	return "#"
}

// firstFit is, of what may tell From, the first that fits no other man's move.
func firstFit(p api.Pos, m api.Move, moves []api.Move) string {
	name := nameOf(m.From)
	for _, part := range []string{"", name[:1], name[1:]} {
		fits := func(n api.Move) bool {
			return n.To == m.To && n.From != m.From && kindOf(p, n) == kindOf(p, m) && strings.Contains(nameOf(n.From), part)
		}
		if !slices.ContainsFunc(moves, fits) {
			return part
		}
	}
	return name
}

// told are a legal move's notes, short and long, put together in another way.
func told(p api.Pos, m api.Move, moves []api.Move) (string, string) {
	kind, files, end := kindOf(p, m), m.To%8-m.From%8, markBehind(p, m)
	if kind == 6 && files*files == 4 {
		castles := []string{"O-O-O", "O-O"}[m.To%8/4] + end
		return castles, castles
	}
	letter := []string{"", "", "N", "B", "R", "Q", "K"}[kind]
	end = nameOf(m.To) + []string{"", "", "=N", "=B", "=R", "=Q"}[m.Promo] + end
	from := firstFit(p, m, moves)
	if kind == 1 {
		from = nameOf(m.From)[:files*files]
	}
	if p.At[m.To] != 0 || kind == 1 && files != 0 {
		return letter + from + "x" + end, letter + nameOf(m.From) + "x" + end
	}
	return letter + from + end, letter + nameOf(m.From) + "-" + end
}

// P13.1, P13.2: all legal moves of many positions; unlike ones have unlike notes, also without + and #; each is read back.
func TestEach(t *testing.T) {
	for i, start := range named(t) {
		for _, p := range walked(start, 4, i) {
			moves := legal.New().Moves(p)
			met := map[string]api.Move{}
			for _, m := range moves {
				short, long := told(p, m, moves)
				if s, e := Short(p, m); s != short || e != api.OK {
					t.Errorf("Short %s %s: %q %d, not %q", show(p), move.Text(m), s, e, short)
				}
				if l, e := Long(p, m); l != long || e != api.OK {
					t.Errorf("Long %s %s: %q %d, not %q", show(p), move.Text(m), l, e, long)
				}
				if other, is := met[bareOf(short)]; is {
					t.Error("alike", show(p), short, move.Text(m), move.Text(other))
				}
				met[bareOf(short)] = m
				reads(t, p, short, m)
				reads(t, p, bareOf(short), m)
			}
		}
	}
}

// P13.2: the greatest numbers of men of one kind that go to one square.
func TestUnlike(t *testing.T) {
	for _, text := range []string{
		"k7/2Q1Q1Q1/8/2Q3Q1/8/2Q1Q1Q1/8/7K",
		"K7/8/1Q1Q1Q2/8/1Q3Q2/8/1Q1Q1Q2/7k",
		"k7/8/2N1N3/1N3N2/8/1N3N2/2N1N3/7K",
		"6k1/8/R7/8/2R1R2R/8/2R5/R3R2K",
	} {
		p := at(t, text, 0, 0, "-")
		for _, p := range []api.Pos{p, mirrored(p)} {
			right(t, p)
			met := map[string]bool{}
			moves := legal.New().Moves(p)
			for _, m := range moves {
				s, e := Short(p, m)
				if want, _ := told(p, m, moves); s != want || e != api.OK {
					t.Error("Short", show(p), move.Text(m), s, e, want)
				}
				met[bareOf(s)] = true
			}
			if len(met) != len(moves) || len(moves) == 0 {
				t.Error("alike", show(p), len(met), len(moves))
			}
		}
	}
}

// signs are those that notes have, and some that they haven't.
var signs = strings.Split("abcdefgh12345678KQRBNPkqrnpxXOo0-=+#!. \n\t\x00\xff", "")

// altered are the texts that differ from one by one sign: left out, put in, or exchanged.
func altered(text string) []string {
	var out []string
	for i := range len(text) + 1 {
		for _, sign := range signs {
			out = append(out, text[:i]+sign+text[i:])
			if i < len(text) {
				out = append(out, text[:i]+sign+text[i+1:])
			}
		}
		if i < len(text) {
			out = append(out, text[:i]+text[i+1:])
		}
	}
	return out
}

// P13.1: texts that differ by one sign from a note, or that are a long one: read, if they are another one's short note.
func TestAltered(t *testing.T) {
	for _, p := range []api.Pos{
		at(t, "6k1/8/8/6N1/8/8/8/1K4N1", 0, 0, "-"),
		at(t, "4k3/8/8/8/8/8/4r3/R3K2R", 0, 3, "-"),
		at(t, "3r2k1/2P2ppp/8/8/8/8/8/4K3", 0, 0, "-"),
		at(t, "4k3/8/8/2pP4/1P1B4/8/8/4K3", 1, 0, "-"),
		at(t, "4k3/8/8/2PpP3/8/8/8/4K3", 0, 0, "d6"),
		at(t, "4k2r/5p1p/8/8/8/8/8/4K3", 1, 4, "-"),
	} {
		right(t, p)
		notes := map[string]api.Move{}
		moves := legal.New().Moves(p)
		for _, m := range moves {
			short, long := told(p, m, moves)
			notes[short], notes[bareOf(short)] = m, m
			if long != short {
				unread(t, p, long)
				unread(t, p, bareOf(long))
			}
		}
		for short := range notes {
			for _, text := range altered(short) {
				if m, is := notes[text]; is {
					reads(t, p, text, m)
					continue
				}
				unread(t, p, text)
			}
		}
	}
}

// P13.1: texts that are no notes of a position: of each kind some, by hand.
func TestUnread(t *testing.T) {
	for _, c := range []struct {
		p     api.Pos
		texts string
	}{
		// Long notes, moves' texts, small letters, signs, letters for pawns, moves of other men.
		{pos.First(), "e2-e4 e2e4 Ng1-f3 g1f3 nf3 NF3 nF3 E4 ♘f3 ♞f3 Pe4 pe4 P e4e4 e2e4q e4q e5 e6 d5 Nf6 Nc6 Ke2 Kd1 Qd2 Ra2 Bb2 O-O O-O-O"},
		// More than is needed to tell apart, a superfluous x, squares that are none, what is no man.
		{pos.First(), "Ngf3 N1f3 Ng1f3 Nbf3 Nxf3 Ngxf3 xf3 fxe4 exe4 ee4 ef4 2e4 e2xe4 e9 e0 i4 a9 e-4 e e44 4e 4 44 Nf Nf33 N3 N Nff3 Nf9 Ni3 Mf3 Sf3 1f3"},
		// Marks that aren't the note's own, or are two.
		{pos.First(), "e4+ e4# Nf3+ Nf3# e4++ e4## e4+# e4! e4? e4e.p. +e4 #e4 e+4 e4=Q e4= e4Q e4(Q) e4/Q e4=K e4=P Nf3=Q Nf3="},
		// A mark instead of another one.
		{at(t, "7k/R7/5PK1/8/8/8/8/8", 0, 0, "-"), "Ra8+ Ra8++ Ra8## Ra8#+ Ra8+# Rh7# Rh7++ Ra1+ Ra1# f7+ f7# Raa8 R7a8 Ra7a8 Ra7-a8 Ra7-a8# Rxa8 Rxa8# ra8 ra8#"},
		// What a pawn turns into: missing, superfluous, without its sign, small, no such man.
		{at(t, "1n6/P7/3k4/8/8/8/8/4K3", 0, 0, "-"), "a8 a8= a8Q a8q a8=q a8=K a8=P a8=A a8=1 a8=QQ a8==Q a8=Q=Q a8=Q+ a8=Q# a8=N+ aa8=Q axa8=Q axb8 axb8+ axb8= axb8=q axb8=+ axb8=Q# axb8=Q++ axb8=R+ axb8=N+ axb8=B# b8=Q xb8=Q ab8=Q a7b8=Q a7xb8=Q a7b8q bxa8=Q Ke2=Q Kd2= Pa8=Q"},
		// Less than is needed to tell apart, and more.
		{at(t, "5k2/8/8/8/8/8/Q6Q/Q5K1", 0, 0, "-"), "Qb2 Qab2 Q2b2 Qa1b2 Qh2b2 Q1b1+ Qb1 Qab1 Qe5 Q1e5 Q2e5 Qa1e5 Qh2e5 Qh8 Qh8+ Qah8# Q1h8+ Q2h8+ Qaa8+ Q2a8+ Qa2a8+ Qa1-b2 Q12b2 Q2ab2"},
		{at(t, "7k/8/8/R7/8/8/8/R5K1", 0, 0, "-"), "Ra3 Raa3 Ra1a3 Ra5a3 R8a3 R2a3 Rba3 R1-a3 R1xa3 R5a8 R5a8+ Raa8+"},
		{at(t, "k7/8/8/1N1N4/8/2p5/8/1N1N3K", 0, 0, "-"), "Nxc3 Nbxc3 Ndxc3 N1xc3 N5xc3 Nb1c3 Nd5c3 Nc3 Nb1-c3 nb1xc3 Nb1Xc3 N1bxc3 Nc1xc3 Nb2xc3 Nb1xxc3"},
		{at(t, "4kr2/8/8/8/8/5N2/8/1N3K2", 0, 0, "-"), "Nbd2 Nfd2 N1d2 N3d2 Nb1d2 Nf3d2 Ng1 Ne5"},
		// A missing x.
		{at(t, "4k3/8/8/8/8/8/3p4/4K3", 0, 0, "-"), "Kd2 Kxd1 Kxe2 Kexd2 K1xd2 Ke1xd2 xd2 kxd2 Kd2x Kxxd2 KXd2 K×d2 Kx Kxd"},
	} {
		for _, p := range []api.Pos{c.p, mirrored(c.p)} {
			right(t, p)
			for _, text := range strings.Fields(c.texts) {
				if p.Turn != c.p.Turn {
					text = mirroredNote(text)
				}
				unread(t, p, text)
			}
		}
	}
}

// P13.1: texts that are no notes of any position: empty, with blanks, of bytes that are no letters, very long ones.
func TestNoNotes(t *testing.T) {
	none := []string{"", " ", "\n", "\x00", "\xff", "\xc3", "+", "#", "x", "=", "-", "=Q", "e4 ", " e4", "e 4", "e4\n", "\te4", "e4\x00", "\x00e4", "e\x004", "e4\xff", "\xffe4", "e\xff4", "Nf3 ", " Nf3", "N f3", "Nf3\r\n", "е4", "ｅ４", "e４", "Νf3", "e4\u0301", "\ufeffe4", "e4 e5", "e4,", "1.e4", "1. e4", "... e5", "--", "0000", "null", "Z0", "♔", "e4é"}
	for _, part := range []string{"e4", "N", "f3", "+", "#", "O-O", "-O", "x", " ", "\x00", "\xff", "=Q"} {
		for _, many := range []int{9, 5000, 200000} {
			none = append(none, strings.Repeat(part, many), "e4"+strings.Repeat(part, many), "Nf3"+strings.Repeat(part, many))
		}
	}
	for _, p := range named(t) {
		for _, text := range none {
			unread(t, p, text)
		}
	}
}

// refused asks for the notes of a move that isn't legal, in a right position.
func refused(t *testing.T, p api.Pos, m api.Move) {
	t.Helper()
	if s, e := Short(p, m); s != "" || e != api.ErrArg {
		t.Errorf("Short %s %v: %q %d", show(p), m, s, e)
	}
	if l, e := Long(p, m); l != "" || e != api.ErrArg {
		t.Errorf("Long %s %v: %q %d", show(p), m, l, e)
	}
	noLine(t, p, []api.Move{m})
}

// noLine asks for the notes of what is no path of a right position.
func noLine(t *testing.T, p api.Pos, moves []api.Move) {
	t.Helper()
	if l, e := Line(p, moves); len(l) != 0 || e != api.ErrArg {
		t.Errorf("Line %s %v: %q %d", show(p), moves, l, e)
	}
}

// P13.1: moves that aren't legal: not formed, that no man goes, that leave the king in check, that castle where it may not.
func TestRefused(t *testing.T) {
	for _, c := range []struct {
		p     api.Pos
		moves string
	}{
		{pos.First(), "e3e4 e7e5 g8f6 a1a2 d1d2 e1e1 a1a1 e2e4q e2e3n g1f3q e2e5 e2d3 b1d2 b1b3 a1a3 c1e3 d1d3 e1e3 e1g1 e1c1 e1e2 a2a2"},
		{at(t, "4k3/8/8/8/8/8/8/4K2R", 0, 0, "-"), "e1g1 e1e8 h1h1 e1h1 e8e7 h1g2 e1e3 e4e5"},
		{at(t, "4kr2/8/8/8/8/5N2/8/1N3K2", 0, 0, "-"), "f3d2 f3g1 f3e5 f1f3 f8f3"},
		{at(t, "4k3/8/8/8/8/8/4r3/R3K2R", 0, 3, "-"), "e1g1 e1c1 e1d2 e1f2 a1a2 h1h2 a1d1"},
		{at(t, "7k/8/8/K2pP2r/8/8/8/8", 0, 0, "d6"), "e5d6 e5d5 e5f6"},
		{at(t, "4k3/8/8/3pP3/8/8/8/4K3", 0, 0, "-"), "e5d6 e5f6 e5e7"},
		{at(t, "1n6/P7/3k4/8/8/8/8/4K3", 0, 0, "-"), "a7a8 a7b8 a7a8p a7a8k a7b8k a7b8p e1e2q"},
		{at(t, "8/8/8/8/8/2k5/1q6/K7", 0, 0, "-"), "a1b2 a1a2 a1b1"},
		{at(t, "8/8/8/8/8/1k6/2q5/K7", 0, 0, "-"), "a1b2 a1a2 a1b1 a1c2"},
	} {
		right(t, c.p)
		for _, m := range path(c.moves) {
			refused(t, c.p, m)
			refused(t, mirrored(c.p), mirroredMove(m))
		}
	}
	p := at(t, "1n6/P7/3k4/8/8/8/8/4K3", 0, 0, "-")
	for _, n := range noSquares {
		for _, p := range []api.Pos{p, mirrored(p), pos.First()} {
			for _, m := range []api.Move{{From: n, To: 12}, {From: 4, To: n}, {From: n, To: n}, {From: 12, To: n}, {From: n, To: 28}, {From: 48, To: n, Promo: 5}, {From: n, To: 57, Promo: 5}, {From: n, To: n, Promo: n}} {
				refused(t, p, m)
			}
		}
	}
	for _, n := range noPromos {
		for _, m := range []api.Move{{From: 48, To: 56, Promo: n}, {From: 48, To: 57, Promo: n}, {From: 4, To: 12, Promo: n}} {
			refused(t, p, m)
			refused(t, mirrored(p), mirroredMove(m))
		}
	}
}

// lines asks for the notes of a path, and of the mirrored one; the path stays as it is.
func lines(t *testing.T, p api.Pos, moves []api.Move, want []string) {
	t.Helper()
	kept := slices.Clone(moves)
	if l, e := Line(p, moves); !slices.Equal(l, want) || e != api.OK {
		t.Errorf("Line %s %s: %q %d, not %q", show(p), texts(moves), l, e, want)
	}
	var turned []string
	for _, note := range want {
		turned = append(turned, mirroredNote(note))
	}
	if l, e := Line(mirrored(p), mirroredPath(moves)); !slices.Equal(l, turned) || e != api.OK {
		t.Errorf("Line %s %s: %q %d, not %q", show(mirrored(p)), texts(mirroredPath(moves)), l, e, turned)
	}
	if !slices.Equal(moves, kept) {
		t.Error("written into", texts(kept), texts(moves))
	}
}

// P13.1: lines of several moves, by hand: each has its note in its own position.
func TestLine(t *testing.T) {
	for _, c := range []struct {
		p            api.Pos
		moves, notes string
	}{
		{pos.First(), "", ""},
		{pos.First(), "e2e4", "e4"},
		{pos.First(), "e2e4 e7e5 g1f3 b8c6 f1b5", "e4 e5 Nf3 Nc6 Bb5"},
		{pos.First(), "f2f3 e7e5 g2g4 d8h4", "f3 e5 g4 Qh4#"},
		// The same move, told apart, and then not.
		{pos.First(), "g1f3 g8f6 d2d4 d7d5 b1d2 b8d7 d2b1 d7b8 f3d2 f6d7", "Nf3 Nf6 d4 d5 Nbd2 Nbd7 Nb1 Nb8 Nfd2 Nfd7"},
		{pos.First(), "g1f3 g8f6 d2d4 d7d5 f3e5 f6e4 b1d2 b8d7 d2e4 d7e5 e4g3 e5g6", "Nf3 Nf6 d4 d5 Ne5 Ne4 Nd2 Nd7 Nxe4 Nxe5 Ng3 Ng6"},
		// A whole game, with White castling far, up to mate.
		{pos.First(), "e2e4 e7e5 g1f3 d7d6 d2d4 c8g4 d4e5 g4f3 d1f3 d6e5 f1c4 g8f6 f3b3 d8e7 b1c3 c7c6 c1g5 b7b5 c3b5 c6b5 c4b5 b8d7 e1c1 a8d8 d1d7 d8d7 h1d1 e7e6 b5d7 f6d7 b3b8 d7b8 d1d8",
			"e4 e5 Nf3 d6 d4 Bg4 dxe5 Bxf3 Qxf3 dxe5 Bc4 Nf6 Qb3 Qe7 Nc3 c6 Bg5 b5 Nxb5 cxb5 Bxb5+ Nbd7 O-O-O Rd8 Rxd7 Rxd7 Rd1 Qe6 Bxd7+ Nxd7 Qb8+ Nxb8 Rd8#"},
		// In passing, castling of both sides, pawns that turn into something.
		{pos.First(), "e2e4 a7a6 e4e5 d7d5 e5d6 c7d6", "e4 a6 e5 d5 exd6 cxd6"},
		{at(t, "r3k2r/8/8/8/8/8/8/R3K2R", 0, 15, "-"), "e1g1 e8c8 f1d1 d8d1 a1d1", "O-O O-O-O Rfd1 Rxd1+ Rxd1"},
		{at(t, "1n2k3/P7/8/8/8/8/p7/4K1N1", 0, 0, "-"), "a7b8q e8e7 g1f3 a2a1r e1d2", "axb8=Q+ Ke7 Nf3 a1=R+ Kd2"},
		{at(t, "4k3/8/8/8/8/8/8/4K2R", 0, 0, "-"), "h1h8 e8e7 h8h1 e7e8", "Rh8+ Ke7 Rh1 Ke8"},
	} {
		lines(t, c.p, path(c.moves), strings.Fields(c.notes))
	}
	// What is read of a line, each in its own position, is the line.
	for i, p := range named(t) {
		var moves []api.Move
		places := walked(p, 12, i)
		for j := 1; j < len(places); j++ {
			for _, m := range legal.New().Moves(places[j-1]) {
				if q, _ := move.Make(places[j-1], m); q == places[j] {
					moves = append(moves, m)
					break
				}
			}
		}
		l, e := Line(p, moves)
		if e != api.OK || len(l) != len(moves) || len(l) != len(places)-1 {
			t.Fatal("Line", show(p), texts(moves), l, e)
		}
		for j, note := range l {
			reads(t, places[j], note, moves[j])
		}
	}
}

// P13.1: the line of no moves has no notes, in each right position; a path that is nil is one of no moves; a line may be long.
func TestLineOfNone(t *testing.T) {
	for _, p := range named(t) {
		for _, none := range [][]api.Move{nil, {}, make([]api.Move, 0, 9)} {
			lines(t, p, none, nil)
		}
	}
	around, notes := path("g1f3 g8f6 f3g1 f6g8"), strings.Fields("Nf3 Nf6 Ng1 Ng8")
	lines(t, pos.First(), slices.Repeat(around, 300), slices.Repeat(notes, 300))
	noLine(t, pos.First(), append(slices.Repeat(around, 300), of("e7e5")))
}

// P13.1: a move that isn't legal, as the first, in the midst, and as the last of a line.
func TestNoLine(t *testing.T) {
	first := pos.First()
	open := path("e2e4 e7e5 g1f3 b8c6 f1b5 d7d6")
	lines(t, first, open, strings.Fields("e4 e5 Nf3 Nc6 Bb5 d6"))
	bad := append(path("a5a6 e1e1 e8e8 a1a2 a8a7 a1a5 h8h4 e1e3 e1c1 e8g8 a2a3q a7a6n e3e4 e6e5 a2b3 a7b6 a2a5 e1h8"), api.Move{}, api.Move{From: -1, To: 64, Promo: 9})
	for _, n := range noSquares {
		bad = append(bad, api.Move{From: n, To: 20}, api.Move{From: 12, To: n}, api.Move{From: 51, To: n}, api.Move{From: n, To: n})
	}
	for place := range len(open) + 1 {
		for _, m := range bad {
			noLine(t, first, slices.Insert(slices.Clone(open), place, m))
			noLine(t, first, slices.Concat(open[:place], []api.Move{m}))
		}
		// The other side's move, made twice.
		if place > 0 {
			noLine(t, first, slices.Insert(slices.Clone(open), place, open[place-1]))
		}
	}
	// A knight that is held, a king that stays in check; in passing a move too late; castling with a king that came back; behind mate, and stalemate.
	noLine(t, first, path("e2e4 e7e5 g1f3 d7d6 f1b5 b8c6 a2a3 c6d4"))
	noLine(t, first, path("e2e4 e7e5 g1f3 d7d6 f1b5 a7a6 a2a3"))
	noLine(t, first, path("e2e4 a7a6 e4e5 d7d5 a2a3 a6a5 e5d6"))
	noLine(t, at(t, "r3k2r/8/8/8/8/8/8/R3K2R", 0, 15, "-"), path("e1e2 e8e7 e2e1 e7e8 e1g1"))
	noLine(t, first, path("f2f3 e7e5 g2g4 d8h4 a2a3"))
	noLine(t, at(t, "k7/8/8/1Q6/8/8/8/K7", 0, 0, "-"), path("b5b6 a8a7"))
	noLine(t, at(t, "1n6/P7/3k4/8/8/8/8/4K3", 0, 0, "-"), path("e1e2 b8c6 a7a8"))
}

// nothing asks all of a position of which nothing is told but an error.
func nothing(t *testing.T, p api.Pos, want api.Errno) {
	t.Helper()
	moves := path("e1g1 e1c1 e1e2 e8g8 e8e7 e5d6 e5e6 e1e1 f2f4 a1a8 h1h8q")
	moves = append(moves, api.Move{}, api.Move{From: -1, To: 64, Promo: 9})
	for _, n := range noSquares {
		moves = append(moves, api.Move{From: n, To: 12}, api.Move{From: 4, To: n}, api.Move{From: n, To: n, Promo: n})
	}
	for _, m := range moves {
		if s, e := Short(p, m); s != "" || e != want {
			t.Errorf("Short %s %v: %q %d, not %d", show(p), m, s, e, want)
		}
		if l, e := Long(p, m); l != "" || e != want {
			t.Errorf("Long %s %v: %q %d, not %d", show(p), m, l, e, want)
		}
		for _, path := range [][]api.Move{{m}, {m, m}, {{From: 4, To: 12}, m}} {
			if l, e := Line(p, path); len(l) != 0 || e != want {
				t.Errorf("Line %s %v: %q %d, not %d", show(p), path, l, e, want)
			}
		}
	}
	for _, none := range [][]api.Move{nil, {}} {
		if l, e := Line(p, none); len(l) != 0 || e != want {
			t.Errorf("Line %s: %q %d, not %d", show(p), l, e, want)
		}
	}
	for _, text := range []string{"", "O-O", "O-O-O", "Ke2", "Ke7", "Kd1", "f4", "exd6", "e6", "Rxa8+", "Ke1-e2", "x", "\xff", strings.Repeat("e4", 9999)} {
		if m, e := Read(p, text); m != (api.Move{}) || e != want {
			t.Errorf("Read %s %.40q: %v %d, not %d", show(p), text, m, e, want)
		}
	}
}

// P13.1: positions that lack something, with each of the errors that layer 8 tells, whatever move, text or path is.
func TestWrongPosition(t *testing.T) {
	p := at(t, "r3k2r/8/8/3pP3/8/8/5P2/R3K2R", 0, 15, "d6")
	right(t, p)
	met := map[api.Errno]bool{}
	for i, c := range []struct {
		want  api.Errno
		spoil func(p *api.Pos)
	}{
		{api.ErrArg, func(p *api.Pos) { p.At[40] = 7 }},
		{api.ErrArg, func(p *api.Pos) { p.At[40] = -128 }},
		{api.ErrKings, func(p *api.Pos) { p.At[40] = 6 }},
		{api.ErrKings, func(p *api.Pos) { p.At[60] = 0 }},
		{api.ErrKings, func(p *api.Pos) { *p = api.Pos{} }},
		{api.ErrKings, func(p *api.Pos) { *p = api.Pos{Turn: 9, Castle: 99, Ep: 99} }},
		{api.ErrPawns, func(p *api.Pos) { p.At[1] = 1 }},
		{api.ErrPawns, func(p *api.Pos) { p.At[57] = 1 }},
		{api.ErrMen, func(p *api.Pos) { copy(p.At[16:32], slices.Repeat([]int8{2}, 16)) }},
		{api.ErrArg, func(p *api.Pos) { p.Turn = 2 }},
		{api.ErrArg, func(p *api.Pos) { p.Turn = -1 }},
		{api.ErrArg, func(p *api.Pos) { p.Castle = 16 }},
		{api.ErrArg, func(p *api.Pos) { p.Castle = -1 }},
		{api.ErrArg, func(p *api.Pos) { p.Ep = -2 }},
		{api.ErrArg, func(p *api.Pos) { p.Ep = 64 }},
		{api.ErrTouch, func(p *api.Pos) { p.At[51] = 1 }},
		{api.ErrTouch, func(p *api.Pos) { p.At[60], p.At[11], p.Castle = 0, -6, 3 }},
		{api.ErrCastle, func(p *api.Pos) { p.At[56] = 0 }},
		{api.ErrPassant, func(p *api.Pos) { p.Ep = 44 }},
		{api.ErrPassant, func(p *api.Pos) { p.At[51] = -2 }},
	} {
		q := p
		c.spoil(&q)
		if e := pos.Wrong(q); e != c.want {
			t.Error("spoilt", i, e)
		}
		met[c.want] = true
		nothing(t, q, c.want)
	}
	for _, e := range []api.Errno{api.ErrArg, api.ErrKings, api.ErrPawns, api.ErrMen, api.ErrTouch, api.ErrCastle, api.ErrPassant} {
		if !met[e] {
			t.Error("not met", e)
		}
	}
}

// R4: what is answered is new memory, spare room included, and what is handed in stays as it is, likewise; R5: what was asked ahead changes no answer.
func TestAnswersAreNew(t *testing.T) {
	moves := make([]api.Move, 3, 6)
	copy(moves, path("e2e4 e7e5 g1f3"))
	want := strings.Fields("e4 e5 Nf3")
	first, _ := Line(pos.First(), moves)
	second, _ := Line(pos.First(), moves)
	whole := first[:cap(first)]
	for i := range whole {
		whole[i] = "spoilt"
	}
	third, e := Line(pos.First(), moves)
	if !slices.Equal(second, want) || !slices.Equal(third, want) || e != api.OK {
		t.Error("answers share memory", second, third, e)
	}
	if all := moves[:6]; !slices.Equal(all, append(path("e2e4 e7e5 g1f3"), api.Move{}, api.Move{}, api.Move{})) {
		t.Error("written into", all)
	}
	Line(pos.First(), append(moves, of("e1e3")))
	Short(pos.First(), of("e1e3"))
	Read(pos.First(), "Nd2")
	p := pos.First()
	if s, e := Short(p, of("g1f3")); s != "Nf3" || e != api.OK || p != pos.First() {
		t.Error("again", s, e)
	}
	if l, e := Line(p, moves[:1]); !slices.Equal(l, want[:1]) || e != api.OK {
		t.Error("again", l, e)
	}
}
