package move

import (
	"fmt"
	"math"
	"slices"
	"strings"
	"testing"

	"alfil/api"
	"alfil/forsyth"
	"alfil/pos"
)

// noSquares are numbers that are none; some of them would be one if they were cut to fewer bits, or their sign were lost.
var noSquares = []int{-1, -2, -4, -12, -63, -64, 64, 65, 68, 127, 128, 255, 256, 256 + 12, 1<<16 + 12, 1 << 32, 1<<32 + 12, 1<<32 - 1, math.MinInt32, math.MaxInt32, math.MinInt + 1, math.MinInt, math.MaxInt - 1, math.MaxInt}

// noPromos are numbers that nothing turns into; some of them would be a man if they were cut to fewer bits, or their sign were lost.
var noPromos = []int{-1, -2, -3, -4, -5, -6, -7, 1, 6, 7, 8, 10, 13, 16, 64, 128, 255, 256, 256 + 5, 1<<16 + 5, 1 << 32, 1<<32 + 5, 1<<32 + 2, math.MinInt32, math.MaxInt32, math.MinInt + 1, math.MinInt, math.MaxInt - 1, math.MaxInt}

// place is the number of a square's name, found by its signs' places.
func place(name string) int {
	return strings.IndexByte("12345678", name[1])*8 + strings.IndexByte("abcdefgh", name[0])
}

// name is the other way about.
func name(s int) string { return "abcdefgh"[s%8:s%8+1] + "12345678"[s/8:s/8+1] }

// at is a position of a Forsyth text; ep is a square's name, or "-".
func at(t *testing.T, text string, turn, castle int, ep string) api.Pos {
	t.Helper()
	b, _, e := forsyth.Read(text)
	if e != api.OK {
		t.Fatal(text, e)
	}
	s := -1
	if ep != "-" {
		s = place(ep)
	}
	return api.Pos{At: b, Turn: turn, Castle: castle, Ep: s}
}

// of is the move of two names and a letter, of which none need be a move's.
func of(text string) api.Move {
	m := api.Move{From: place(text[:2]), To: place(text[2:4])}
	if len(text) > 4 {
		m.Promo = strings.IndexByte("?pnbrqk", text[4])
	}
	return m
}

func abs(n int) int { return max(n, -n) }

// mirrored is a position as the other side sees it, put together rank by rank.
func mirrored(p api.Pos) api.Pos {
	q := api.Pos{Turn: 1 - p.Turn, Castle: p.Castle%4*4 + p.Castle/4, Ep: -1}
	for s, m := range p.At {
		q.At[s^56] = -m
	}
	if p.Ep >= 0 {
		q.Ep = p.Ep ^ 56
	}
	return q
}

// given are right positions, each mirrored as well: with rights and without, free to castle and not, with pawns that went two squares, pawns on all ranks, in check and not.
func given(t *testing.T) []api.Pos {
	t.Helper()
	var out []api.Pos
	for _, p := range []api.Pos{
		pos.First(),
		at(t, "4k3/8/8/8/8/8/8/4K3", 0, 0, "-"),
		at(t, "r3k2r/8/8/8/8/8/8/R3K2R", 0, 15, "-"),
		at(t, "r3k2r/8/8/8/8/8/8/R3K2R", 0, 0, "-"),
		at(t, "r3k2r/8/8/8/8/8/8/R3K2R", 0, 13, "-"),
		at(t, "r3k2r/8/8/8/8/8/8/R3K2R", 0, 6, "-"),
		at(t, "rn2kb1r/8/8/8/8/8/8/RN2KB1R", 0, 15, "-"),
		at(t, "r1b1k1nr/8/8/8/8/8/8/R1B1K1NR", 0, 15, "-"),
		at(t, "r2qk2r/8/8/8/8/8/8/R2QK2R", 0, 15, "-"),
		at(t, "r3k2r/8/8/8/8/8/8/RnN1KNnR", 0, 15, "-"),
		at(t, "r3k2r/8/8/8/8/8/8/R1n1K1nR", 0, 15, "-"),
		at(t, "r2k3r/8/8/8/8/8/8/R2K3R", 0, 0, "-"),
		at(t, "4k3/8/8/pPpPpPpP/PpPpPpPp/8/8/4K3", 0, 0, "c6"),
		at(t, "4k3/8/8/PpPpPpPp/pPpPpPpP/8/8/4K3", 0, 0, "h6"),
		at(t, "4k3/8/8/pP4Pp/8/8/8/4K3", 0, 0, "a6"),
		at(t, "r3k2r/1P4P1/2P5/P2pP3/3P4/1P6/P1p3p1/R3K2R", 0, 15, "d6"),
		at(t, "r3k2r/1P4P1/2P5/P2pP3/3P4/1P6/P1p3p1/R3K2R", 0, 15, "-"),
		at(t, "1n1qk1n1/P1P3P1/8/8/8/8/p1p4p/1N1QK1N1", 0, 0, "-"),
		at(t, "r3k2r/p1ppqpb1/bn2pnp1/3PN3/1p2P3/2N2Q1p/PPPBBPPP/R3K2R", 0, 15, "-"),
		at(t, "8/2p5/3p4/KP5r/1R3p1k/8/4P1P1/8", 0, 0, "-"),
		at(t, "4k3/8/8/8/8/8/4r3/R3K2R", 0, 3, "-"),
		at(t, "8/8/8/1k6/3Pp3/8/8/4KQ2", 1, 0, "d3"),
	} {
		for _, q := range []api.Pos{p, mirrored(p)} {
			if e := pos.Wrong(q); e != api.OK {
				t.Fatal("given", show(q), e)
			}
			out = append(out, q)
		}
	}
	return out
}

// show is a position, short enough to be read where a test fails.
func show(p api.Pos) string {
	text, _ := forsyth.Write(p.At)
	return fmt.Sprint(text, " ", p.Turn, p.Castle, p.Ep)
}

// isFormed is what the chapter says of a right position and a move.
func isFormed(p api.Pos, m api.Move) bool {
	if m.From < 0 || m.From > 63 || m.To < 0 || m.To > 63 {
		return false
	}
	own := int8(1 - 2*p.Turn)
	if p.At[m.From]*own <= 0 || p.At[m.To]*own > 0 {
		return false
	}
	if p.At[m.From] == 1 && m.To >= 56 || p.At[m.From] == -1 && m.To <= 7 {
		return m.Promo == 2 || m.Promo == 3 || m.Promo == 4 || m.Promo == 5
	}
	return m.Promo == 0
}

// castlings are the four, as their texts: the right, and the squares that have to be empty.
var castlings = map[string]struct {
	man   int8
	right int
	empty []string
	rook  [2]string
}{
	"e1g1": {6, 1, []string{"f1", "g1"}, [2]string{"h1", "f1"}},
	"e1c1": {6, 2, []string{"b1", "c1", "d1"}, [2]string{"a1", "d1"}},
	"e8g8": {-6, 4, []string{"f8", "g8"}, [2]string{"h8", "f8"}},
	"e8c8": {-6, 8, []string{"b8", "c8", "d8"}, [2]string{"a8", "d8"}},
}

// doesCastle is what the chapter says of a formed move.
func doesCastle(p api.Pos, m api.Move) bool {
	c, is := castlings[name(m.From)+name(m.To)]
	if !is || p.At[m.From] != c.man || p.Castle/c.right%2 == 0 {
		return false
	}
	for _, s := range c.empty {
		if p.At[place(s)] != 0 {
			return false
		}
	}
	return true
}

// doesTake is what the chapter says of a formed move.
func doesTake(p api.Pos, m api.Move) (int, bool) {
	if p.At[m.To] != 0 {
		return m.To, true
	}
	if abs(int(p.At[m.From])) == 1 && m.To == p.Ep && m.From%8 != m.To%8 {
		return m.To - 8*int(p.At[m.From]), true
	}
	return 0, false
}

// made is what the chapter says of a formed move.
func made(p api.Pos, m api.Move) api.Pos {
	q := api.Pos{At: p.At, Turn: 1 - p.Turn, Ep: -1}
	if s, takes := doesTake(p, m); takes {
		q.At[s] = 0
	}
	if doesCastle(p, m) {
		rook := castlings[name(m.From)+name(m.To)].rook
		q.At[place(rook[1])] = p.At[place(rook[0])]
		q.At[place(rook[0])] = 0
	}
	q.At[m.To] = p.At[m.From]
	q.At[m.From] = 0
	if m.Promo != 0 {
		q.At[m.To] = int8(m.Promo) * p.At[m.From]
	}
	for right, homes := range map[int]string{1: "e1 h1", 2: "e1 a1", 4: "e8 h8", 8: "e8 a8"} {
		if p.Castle/right%2 == 1 && !strings.Contains(homes, name(m.From)) && !strings.Contains(homes, name(m.To)) {
			q.Castle += right
		}
	}
	if abs(int(p.At[m.From])) == 1 && abs(m.To-m.From) == 16 {
		q.Ep = min(m.From, m.To) + 8
	}
	return q
}

// refused asks all that P9.1 tells of a move that isn't formed, or of a position that isn't right.
func refused(t *testing.T, p api.Pos, m api.Move, want api.Errno) {
	t.Helper()
	s, takes := Takes(p, m)
	q, e := Make(p, m)
	if Formed(p, m) || Castles(p, m) || s != 0 || takes || q != (api.Pos{}) || e != want {
		t.Error("refused", show(p), m, Formed(p, m), Castles(p, m), s, takes, show(q), e, "not", want)
	}
}

// went asks all that P9.1 tells of a formed move; taken is a square's name, or "".
func went(t *testing.T, p api.Pos, m api.Move, castles bool, taken string, want api.Pos) {
	t.Helper()
	wanted := 0
	if taken != "" {
		wanted = place(taken)
	}
	s, takes := Takes(p, m)
	q, e := Make(p, m)
	if !Formed(p, m) || Castles(p, m) != castles || s != wanted || takes != (taken != "") || q != want || e != api.OK {
		t.Error("went", show(p), m, Formed(p, m), Castles(p, m), s, takes, show(q), e, "not", castles, taken, show(want))
	}
}

// behind is a move of a position, told by hand, and what it makes of it.
type behind struct {
	text            string
	turn, castle    int
	ep, move        string
	want            string
	rights          int
	epBehind, taken string
	castles         bool
}

// ask goes by the move, and by the mirrored one of the mirrored position.
func (c behind) ask(t *testing.T) {
	t.Helper()
	p, m := at(t, c.text, c.turn, c.castle, c.ep), of(c.move)
	want := at(t, c.want, 1-c.turn, c.rights, c.epBehind)
	went(t, p, m, c.castles, c.taken, want)
	other := ""
	if c.taken != "" {
		other = name(place(c.taken) ^ 56)
	}
	went(t, mirrored(p), api.Move{From: m.From ^ 56, To: m.To ^ 56, Promo: m.Promo}, c.castles, other, mirrored(want))
}

// P9.1: men of every kind, that take and that don't; the same for Black by the mirror.
func TestMakeMen(t *testing.T) {
	const men = "4k3/1p4n1/8/1N3B2/3Q4/8/RP3P2/4K3"
	for _, c := range []behind{
		{text: men, ep: "-", move: "b2b3", want: "4k3/1p4n1/8/1N3B2/3Q4/1P6/R4P2/4K3", epBehind: "-"},
		{text: men, ep: "-", move: "b2b4", want: "4k3/1p4n1/8/1N3B2/1P1Q4/8/R4P2/4K3", epBehind: "b3"},
		{text: men, ep: "-", move: "f2f4", want: "4k3/1p4n1/8/1N3B2/3Q1P2/8/RP6/4K3", epBehind: "f3"},
		{text: men, ep: "-", move: "b5c7", want: "4k3/1pN3n1/8/5B2/3Q4/8/RP3P2/4K3", epBehind: "-"},
		{text: men, ep: "-", move: "f5c8", want: "2B1k3/1p4n1/8/1N6/3Q4/8/RP3P2/4K3", epBehind: "-"},
		{text: men, ep: "-", move: "a2a8", want: "R3k3/1p4n1/8/1N3B2/3Q4/8/1P3P2/4K3", epBehind: "-"},
		{text: men, ep: "-", move: "d4h4", want: "4k3/1p4n1/8/1N3B2/7Q/8/RP3P2/4K3", epBehind: "-"},
		{text: men, ep: "-", move: "d4g7", want: "4k3/1p4Q1/8/1N3B2/8/8/RP3P2/4K3", epBehind: "-", taken: "g7"},
		{text: men, ep: "-", move: "e1d2", want: "4k3/1p4n1/8/1N3B2/3Q4/8/RP1K1P2/8", epBehind: "-"},
		{text: "4k3/8/8/2p5/1P6/8/8/4K3", ep: "-", move: "b4c5", want: "4k3/8/8/2P5/8/8/8/4K3", epBehind: "-", taken: "c5"},
		{text: "4k3/8/2p5/8/1N6/8/8/4K3", ep: "-", move: "b4c6", want: "4k3/8/2N5/8/8/8/8/4K3", epBehind: "-", taken: "c6"},
		{text: "4k3/6b1/8/8/8/8/1B6/4K3", ep: "-", move: "b2g7", want: "4k3/6B1/8/8/8/8/8/4K3", epBehind: "-", taken: "g7"},
		{text: "4k3/8/8/8/8/8/8/q3K2R", ep: "-", move: "h1h8", want: "4k2R/8/8/8/8/8/8/q3K3", epBehind: "-"},
		{text: "4k3/8/8/8/8/8/R6p/4K3", ep: "-", move: "a2h2", want: "4k3/8/8/8/8/8/7R/4K3", epBehind: "-", taken: "h2"},
		{text: "4k3/8/8/8/8/8/5n2/4K3", ep: "-", move: "e1f2", want: "4k3/8/8/8/8/8/5K2/8", epBehind: "-", taken: "f2"},
		// The square a1 is 0, which is told beside false as well.
		{text: "4k3/8/8/8/8/8/1K6/r7", ep: "-", move: "b2a1", want: "4k3/8/8/8/8/8/8/K7", epBehind: "-", taken: "a1"},
		{text: "4k3/8/8/8/8/8/1K6/8", ep: "-", move: "b2a1", want: "4k3/8/8/8/8/8/8/K7", epBehind: "-"},
	} {
		c.ask(t)
	}
}

// P9.1: pawns that turn into each of the four men, with and without taking, at the edge and within, on a rook's home.
func TestMakePromo(t *testing.T) {
	for _, letter := range []string{"n", "b", "r", "q"} {
		man := strings.ToUpper(letter)
		for _, c := range []behind{
			{text: "8/P3k3/8/8/8/8/8/4K3", ep: "-", move: "a7a8", want: "A7/4k3/8/8/8/8/8/4K3", epBehind: "-"},
			{text: "8/4k2P/8/8/8/8/8/4K3", ep: "-", move: "h7h8", want: "7A/4k3/8/8/8/8/8/4K3", epBehind: "-"},
			{text: "2b5/3P3k/8/8/8/8/8/4K3", ep: "-", move: "d7d8", want: "2bA4/7k/8/8/8/8/8/4K3", epBehind: "-"},
			{text: "2b5/3P3k/8/8/8/8/8/4K3", ep: "-", move: "d7c8", want: "2A5/7k/8/8/8/8/8/4K3", epBehind: "-", taken: "c8"},
			{text: "r3k2r/1P4P1/8/8/8/8/8/4K3", castle: 12, ep: "-", move: "b7a8", want: "A3k2r/6P1/8/8/8/8/8/4K3", rights: 4, epBehind: "-", taken: "a8"},
			{text: "r3k2r/1P4P1/8/8/8/8/8/4K3", castle: 12, ep: "-", move: "g7h8", want: "r3k2A/1P6/8/8/8/8/8/4K3", rights: 8, epBehind: "-", taken: "h8"},
			{text: "r3k2r/1P4P1/8/8/8/8/8/4K3", castle: 12, ep: "-", move: "g7g8", want: "r3k1Ar/1P6/8/8/8/8/8/4K3", rights: 12, epBehind: "-"},
			// No pawn goes so.
			{text: "8/8/4k3/8/3P4/8/8/4K3", ep: "-", move: "d4h8", want: "7A/8/4k3/8/8/8/8/4K3", epBehind: "-"},
		} {
			c.move += letter
			c.want = strings.Replace(c.want, "A", man, 1)
			c.ask(t)
		}
	}
	// Of Black's men by hand, without the mirror.
	p, want := at(t, "4k3/8/8/8/8/8/7p/4K1R1", 1, 0, "-"), at(t, "4k3/8/8/8/8/8/8/4K1n1", 0, 0, "-")
	went(t, p, of("h2g1n"), false, "g1", want)
}

// P9.1: castling to either side; kings that go the same way without doing so.
func TestMakeCastles(t *testing.T) {
	const free = "r3k2r/8/8/8/8/8/8/R3K2R"
	for _, c := range []behind{
		{text: free, castle: 15, ep: "-", move: "e1g1", want: "r3k2r/8/8/8/8/8/8/R4RK1", rights: 12, epBehind: "-", castles: true},
		{text: free, castle: 15, ep: "-", move: "e1c1", want: "r3k2r/8/8/8/8/8/8/2KR3R", rights: 12, epBehind: "-", castles: true},
		{text: free, turn: 1, castle: 15, ep: "-", move: "e8g8", want: "r4rk1/8/8/8/8/8/8/R3K2R", rights: 3, epBehind: "-", castles: true},
		{text: free, turn: 1, castle: 15, ep: "-", move: "e8c8", want: "2kr3r/8/8/8/8/8/8/R3K2R", rights: 3, epBehind: "-", castles: true},
		{text: free, castle: 1, ep: "-", move: "e1g1", want: "r3k2r/8/8/8/8/8/8/R4RK1", epBehind: "-", castles: true},
		{text: free, castle: 2, ep: "-", move: "e1c1", want: "r3k2r/8/8/8/8/8/8/2KR3R", epBehind: "-", castles: true},
		// Without the right, of that side or at all.
		{text: free, castle: 14, ep: "-", move: "e1g1", want: "r3k2r/8/8/8/8/8/8/R5KR", rights: 12, epBehind: "-"},
		{text: free, castle: 13, ep: "-", move: "e1c1", want: "r3k2r/8/8/8/8/8/8/R1K4R", rights: 12, epBehind: "-"},
		{text: free, ep: "-", move: "e1c1", want: "r3k2r/8/8/8/8/8/8/R1K4R", epBehind: "-"},
		{text: free, castle: 12, ep: "-", move: "e1g1", want: "r3k2r/8/8/8/8/8/8/R5KR", rights: 12, epBehind: "-"},
		{text: free, turn: 1, castle: 3, ep: "-", move: "e8g8", want: "r5kr/8/8/8/8/8/8/R3K2R", rights: 3, epBehind: "-"},
		// With a man between king and rook: passed, beside the rook, and on To, of the other side.
		{text: "4k3/8/8/8/8/8/8/R3KB1R", castle: 3, ep: "-", move: "e1g1", want: "4k3/8/8/8/8/8/8/R4BKR", epBehind: "-"},
		{text: "4k3/8/8/8/8/8/8/R3Kn1R", castle: 3, ep: "-", move: "e1g1", want: "4k3/8/8/8/8/8/8/R4nKR", epBehind: "-"},
		{text: "4k3/8/8/8/8/8/8/R3K1nR", castle: 3, ep: "-", move: "e1g1", want: "4k3/8/8/8/8/8/8/R5KR", epBehind: "-", taken: "g1"},
		{text: "4k3/8/8/8/8/8/8/RN2K2R", castle: 3, ep: "-", move: "e1c1", want: "4k3/8/8/8/8/8/8/RNK4R", epBehind: "-"},
		{text: "4k3/8/8/8/8/8/8/Rn2K2R", castle: 3, ep: "-", move: "e1c1", want: "4k3/8/8/8/8/8/8/RnK4R", epBehind: "-"},
		{text: "4k3/8/8/8/8/8/8/R1b1K2R", castle: 3, ep: "-", move: "e1c1", want: "4k3/8/8/8/8/8/8/R1K4R", epBehind: "-", taken: "c1"},
		{text: "4k3/8/8/8/8/8/8/R2QK2R", castle: 3, ep: "-", move: "e1c1", want: "4k3/8/8/8/8/8/8/R1KQ3R", epBehind: "-"},
		// A man on the other wing bars nothing; who is in check, or would be, isn't asked.
		{text: "4k3/8/8/8/8/8/8/RNBQK2R", castle: 3, ep: "-", move: "e1g1", want: "4k3/8/8/8/8/8/8/RNBQ1RK1", epBehind: "-", castles: true},
		{text: "4k3/8/8/8/8/8/8/R3KBNR", castle: 3, ep: "-", move: "e1c1", want: "4k3/8/8/8/8/8/8/2KR1BNR", epBehind: "-", castles: true},
		{text: "4kr2/8/8/8/8/8/4r3/4K2R", castle: 1, ep: "-", move: "e1g1", want: "4kr2/8/8/8/8/8/4r3/5RK1", epBehind: "-", castles: true},
		// From elsewhere, and by other ways from home.
		{text: "4k3/8/8/8/8/8/8/R2K3R", ep: "-", move: "d1f1", want: "4k3/8/8/8/8/8/8/R4K1R", epBehind: "-"},
		{text: "4k3/8/8/8/8/8/4K3/R6R", ep: "-", move: "e2g2", want: "4k3/8/8/8/8/8/6K1/R6R", epBehind: "-"},
		{text: "4K3/8/8/8/8/8/8/k7", ep: "-", move: "e8g8", want: "6K1/8/8/8/8/8/8/k7", epBehind: "-"},
		{text: free, castle: 15, ep: "-", move: "e1f1", want: "r3k2r/8/8/8/8/8/8/R4K1R", rights: 12, epBehind: "-"},
		{text: free, castle: 15, ep: "-", move: "e1b1", want: "r3k2r/8/8/8/8/8/8/RK5R", rights: 12, epBehind: "-"},
		{text: free, castle: 15, ep: "-", move: "e1g2", want: "r3k2r/8/8/8/8/8/6K1/R6R", rights: 12, epBehind: "-"},
		{text: free, castle: 15, ep: "-", move: "e1e3", want: "r3k2r/8/8/8/8/4K3/8/R6R", rights: 12, epBehind: "-"},
		// Another man on the king's home, and one that goes to where the king would.
		{text: "6k1/8/8/8/8/8/3K4/R3Q2R", ep: "-", move: "e1g1", want: "6k1/8/8/8/8/8/3K4/R5QR", epBehind: "-"},
		{text: free, castle: 15, ep: "-", move: "h1g1", want: "r3k2r/8/8/8/8/8/8/R3K1R1", rights: 14, epBehind: "-"},
	} {
		c.ask(t)
	}
}

// P9.1: taking in passing; pawns and others that go to Ep without doing so.
func TestMakePassing(t *testing.T) {
	for _, c := range []behind{
		{text: "4k3/8/8/3pP3/8/8/8/4K3", ep: "d6", move: "e5d6", want: "4k3/8/3P4/8/8/8/8/4K3", epBehind: "-", taken: "d5"},
		{text: "4k3/8/8/2Pp4/8/8/8/4K3", ep: "d6", move: "c5d6", want: "4k3/8/3P4/8/8/8/8/4K3", epBehind: "-", taken: "d5"},
		{text: "4k3/8/8/pP6/8/8/8/4K3", ep: "a6", move: "b5a6", want: "4k3/8/P7/8/8/8/8/4K3", epBehind: "-", taken: "a5"},
		{text: "4k3/8/8/6Pp/8/8/8/4K3", ep: "h6", move: "g5h6", want: "4k3/8/7P/8/8/8/8/4K3", epBehind: "-", taken: "h5"},
		{text: "4k3/8/8/8/3Pp3/8/8/4K3", turn: 1, ep: "d3", move: "e4d3", want: "4k3/8/8/8/8/3p4/8/4K3", epBehind: "-", taken: "d4"},
		{text: "4k3/8/8/8/6pP/8/8/4K3", turn: 1, ep: "h3", move: "g4h3", want: "4k3/8/8/8/8/7p/8/4K3", epBehind: "-", taken: "h4"},
		// The other pawn stays, and so do rights.
		{text: "r3k2r/8/8/1pPp4/8/8/8/R3K2R", castle: 15, ep: "d6", move: "c5d6", want: "r3k2r/8/3P4/1p6/8/8/8/R3K2R", rights: 15, epBehind: "-", taken: "d5"},
		{text: "4k3/8/8/1pPp4/8/8/8/4K3", ep: "b6", move: "c5d6", want: "4k3/8/3P4/1p1p4/8/8/8/4K3", epBehind: "-"},
		{text: "4k3/8/8/3pP3/8/8/8/4K3", ep: "-", move: "e5d6", want: "4k3/8/3P4/3p4/8/8/8/4K3", epBehind: "-"},
		// On its own file, by one square and more, and on another one from anywhere.
		{text: "4k3/8/8/3p4/3P4/8/8/4K3", ep: "d6", move: "d4d6", want: "4k3/8/3P4/3p4/8/8/8/4K3", epBehind: "d5"},
		{text: "4k3/8/8/3p4/8/3P4/8/4K3", ep: "d6", move: "d3d6", want: "4k3/8/3P4/3p4/8/8/8/4K3", epBehind: "-"},
		{text: "4k3/8/8/3p4/8/8/P7/4K3", ep: "d6", move: "a2d6", want: "4k3/8/3P4/8/8/8/8/4K3", epBehind: "-", taken: "d5"},
		{text: "4k3/6P1/8/3p4/8/8/8/4K3", ep: "d6", move: "g7d6", want: "4k3/8/3P4/8/8/8/8/4K3", epBehind: "-", taken: "d5"},
		// Other men.
		{text: "4k3/8/8/3p4/8/B7/8/4K3", ep: "d6", move: "a3d6", want: "4k3/8/3B4/3p4/8/8/8/4K3", epBehind: "-"},
		{text: "4k3/8/8/3p4/8/8/8/4KN2", ep: "d6", move: "f1d6", want: "4k3/8/3N4/3p4/8/8/8/4K3", epBehind: "-"},
		{text: "4k3/8/4K3/3p4/8/8/8/8", ep: "d6", move: "e6d6", want: "4k3/8/3K4/3p4/8/8/8/8", epBehind: "-"},
		// Ep of the position ahead is gone, whatever goes; a new one may come.
		{text: "4k3/8/8/3pP3/8/8/8/4K3", ep: "d6", move: "e1e2", want: "4k3/8/8/3pP3/8/8/4K3/8", epBehind: "-"},
		{text: "4k3/8/8/3pP3/8/8/8/4K3", ep: "d6", move: "e5e6", want: "4k3/8/4P3/3p4/8/8/8/4K3", epBehind: "-"},
		{text: "4k3/8/8/3pP3/8/8/5P2/4K3", ep: "d6", move: "f2f4", want: "4k3/8/8/3pP3/5P2/8/8/4K3", epBehind: "f3"},
		{text: "4k3/8/8/3pP3/8/8/8/4K3", ep: "d6", move: "e5d5", want: "4k3/8/8/3P4/8/8/8/4K3", epBehind: "-", taken: "d5"},
	} {
		c.ask(t)
	}
}

// P9.1: rights that go since king or rook left home, since a man went to a rook's home, and several at once.
func TestMakeRights(t *testing.T) {
	const free, full = "r3k2r/8/8/8/8/8/8/R3K2R", 15
	for _, c := range []behind{
		{text: free, castle: full, ep: "-", move: "e1e2", want: "r3k2r/8/8/8/8/8/4K3/R6R", rights: 12, epBehind: "-"},
		{text: free, castle: full, ep: "-", move: "a1a2", want: "r3k2r/8/8/8/8/8/R7/4K2R", rights: 13, epBehind: "-"},
		{text: free, castle: full, ep: "-", move: "h1h2", want: "r3k2r/8/8/8/8/8/7R/R3K3", rights: 14, epBehind: "-"},
		{text: free, castle: full, ep: "-", move: "a1a8", want: "R3k2r/8/8/8/8/8/8/4K2R", rights: 5, epBehind: "-", taken: "a8"},
		{text: free, castle: full, ep: "-", move: "h1h8", want: "r3k2R/8/8/8/8/8/8/R3K3", rights: 10, epBehind: "-", taken: "h8"},
		{text: free, castle: full, ep: "-", move: "a1h8", want: "r3k2R/8/8/8/8/8/8/4K2R", rights: 9, epBehind: "-", taken: "h8"},
		{text: free, castle: full, ep: "-", move: "h1a8", want: "R3k2r/8/8/8/8/8/8/R3K3", rights: 6, epBehind: "-", taken: "a8"},
		{text: free, castle: full, ep: "-", move: "e1h8", want: "r3k2K/8/8/8/8/8/8/R6R", rights: 8, epBehind: "-", taken: "h8"},
		{text: "r3k2r/8/8/8/4N3/8/8/R3K2R", castle: full, ep: "-", move: "e4h8", want: "r3k2N/8/8/8/8/8/8/R3K2R", rights: 11, epBehind: "-", taken: "h8"},
		{text: "r3k2r/8/8/8/4N3/8/8/R3K2R", castle: full, ep: "-", move: "e4a8", want: "N3k2r/8/8/8/8/8/8/R3K2R", rights: 7, epBehind: "-", taken: "a8"},
		{text: "r3k2r/8/8/8/4N3/8/8/R3K2R", castle: full, ep: "-", move: "e4d6", want: "r3k2r/8/3N4/8/8/8/8/R3K2R", rights: full, epBehind: "-"},
		{text: "r3k2r/8/8/8/4N3/8/8/R3K2R", castle: 4, ep: "-", move: "e4h8", want: "r3k2N/8/8/8/8/8/8/R3K2R", epBehind: "-", taken: "h8"},
		{text: "r3k2r/8/8/8/4N3/8/8/R3K2R", castle: 8, ep: "-", move: "e4h8", want: "r3k2N/8/8/8/8/8/8/R3K2R", rights: 8, epBehind: "-", taken: "h8"},
		// Rights that aren't there don't come.
		{text: free, castle: 2, ep: "-", move: "h1h2", want: "r3k2r/8/8/8/8/8/7R/R3K3", rights: 2, epBehind: "-"},
		{text: free, ep: "-", move: "h1h2", want: "r3k2r/8/8/8/8/8/7R/R3K3", epBehind: "-"},
		// Another rook, that stands beside, or comes home, and pawns near by.
		{text: "4k3/8/8/8/8/R7/7P/R3K2R", castle: 3, ep: "-", move: "a3a2", want: "4k3/8/8/8/8/8/R6P/R3K2R", rights: 3, epBehind: "-"},
		{text: "4k3/8/8/8/8/R7/7P/4K2R", castle: 1, ep: "-", move: "a3a1", want: "4k3/8/8/8/8/8/7P/R3K2R", rights: 1, epBehind: "-"},
		{text: "4k3/8/8/8/8/R7/7P/R3K2R", castle: 3, ep: "-", move: "h2h4", want: "4k3/8/8/8/7P/R7/8/R3K2R", rights: 3, epBehind: "h3"},
	} {
		c.ask(t)
	}
	// Onto the other king's home, by which no man goes: both its rights are gone, and so is the king.
	want := at(t, "r3R2r/8/8/8/8/8/8/R3K3", 1, 2, "-")
	went(t, at(t, free, 0, full, "-"), of("h1e8"), false, "e8", want)
}

// P9.1: Ep behind pawns that go two ranks on their file, and on another, and otherwise; behind other men.
func TestMakeEp(t *testing.T) {
	for file := range 8 {
		letter := "abcdefgh"[file : file+1]
		p := pos.First()
		for far, want := range map[string]int{"3": -1, "4": 16 + file, "5": -1, "6": -1} {
			q, e := Make(p, of(letter+"2"+letter+far))
			if e != api.OK || q.Ep != want || pos.Wrong(q) != api.OK {
				t.Error("White", letter, far, q.Ep, e)
			}
		}
		p.Turn = 1
		for far, want := range map[string]int{"6": -1, "5": 40 + file, "4": -1, "3": -1} {
			q, e := Make(p, of(letter+"7"+letter+far))
			if e != api.OK || q.Ep != want || pos.Wrong(q) != api.OK {
				t.Error("Black", letter, far, q.Ep, e)
			}
		}
	}
	const few = "2k5/8/1P6/8/8/3P4/4P3/R3K2R"
	for _, c := range []behind{
		// Two ranks on another file.
		{text: few, ep: "-", move: "e2f4", want: "2k5/8/1P6/8/5P2/3P4/8/R3K2R", epBehind: "-"},
		{text: few, ep: "-", move: "e2d4", want: "2k5/8/1P6/8/3P4/3P4/8/R3K2R", epBehind: "-"},
		{text: few, ep: "-", move: "e2g4", want: "2k5/8/1P6/8/6P1/3P4/8/R3K2R", epBehind: "-"},
		{text: few, ep: "-", move: "e2c4", want: "2k5/8/1P6/8/2P5/3P4/8/R3K2R", epBehind: "-"},
		// Two files on its rank.
		{text: few, ep: "-", move: "e2g2", want: "2k5/8/1P6/8/8/3P4/6P1/R3K2R", epBehind: "-"},
		// Two ranks on its file, as no pawn goes: from another rank, back, to the last rank.
		{text: few, ep: "-", move: "d3d5", want: "2k5/8/1P6/3P4/8/8/4P3/R3K2R", epBehind: "d4"},
		{text: few, ep: "-", move: "d3d1", want: "2k5/8/1P6/8/8/8/4P3/R2PK2R", epBehind: "d2"},
		{text: few, ep: "-", move: "b6b4", want: "2k5/8/8/8/1P6/3P4/4P3/R3K2R", epBehind: "b5"},
		{text: few, ep: "-", move: "b6b8q", want: "1Qk5/8/8/8/8/3P4/4P3/R3K2R", epBehind: "b7"},
		// Over a man, and onto one.
		{text: "k7/8/8/8/4n3/4n3/4P3/4K3", ep: "-", move: "e2e4", want: "k7/8/8/8/4P3/4n3/8/4K3", epBehind: "e3", taken: "e4"},
		// Other men by two ranks.
		{text: few, ep: "-", move: "a1a3", want: "2k5/8/1P6/8/8/R2P4/4P3/4K2R", epBehind: "-"},
		{text: few, ep: "-", move: "h1h3", want: "2k5/8/1P6/8/8/3P3R/4P3/R3K3", epBehind: "-"},
		{text: few, ep: "-", move: "e1e3", want: "2k5/8/1P6/8/8/3PK3/4P3/R6R", epBehind: "-"},
	} {
		c.ask(t)
	}
	// The chapter's example.
	q, e := Make(pos.First(), of("e2e4"))
	if want := at(t, "rnbqkbnr/pppppppp/8/8/4P3/8/PPPP1PPP/RNBQKBNR", 1, 15, "e3"); q != want || e != api.OK {
		t.Error("e2e4", show(q), e)
	}
}

// P9.1: all that isn't formed, told by hand.
func TestRefused(t *testing.T) {
	p := at(t, "r3k3/P7/8/3pP3/8/8/p6p/1N2K2R", 0, 0, "-")
	for _, text := range []string{
		// Nobody on From, or a man of the other side.
		"a1a2", "d4d5", "g8g7", "e8e7", "d5d4", "a8b8", "a2a1", "a2a1q",
		// A man of who is to move on To.
		"e1h1", "h1e1", "b1e5", "e5b1", "e1a7", "e1e1", "h1h1", "e5e5", "a7a7",
		// Promo of a man that is no pawn, to the last rank and elsewhere.
		"e1e2q", "h1h8q", "h1h8n", "b1c3r", "b1c3b", "e1d1n", "b1a8q", "e1e8q",
		// Promo of a pawn that doesn't go to the last rank, its first one among others.
		"e5e6q", "e5e6n", "e5d6q", "a7b1q", "e5a1n", "a7a6r", "e5d5b", "a7g1q",
		// Promo 0 of one that does.
		"a7a8", "a7b8", "e5e8", "e5h8", "a7h8",
		// Promo of a pawn and a king.
		"a7a8p", "a7a8k", "a7b8p", "a7b8k", "e5e6p", "e5e6k", "e1e2p", "e1e2k",
	} {
		m := of(text)
		refused(t, p, m, api.ErrArg)
		refused(t, mirrored(p), api.Move{From: m.From ^ 56, To: m.To ^ 56, Promo: m.Promo}, api.ErrArg)
	}
	for _, text := range []string{"a7a8n", "a7a8b", "a7a8r", "a7a8q", "a7b8q", "e5e8q", "e5a1", "a7c1", "e1e8", "h1h8", "b1h8", "e1a8"} {
		if !Formed(p, of(text)) {
			t.Error("Formed", text)
		}
	}
}

// P9.1: numbers that are no squares, or nothing that a pawn turns into.
func TestRefusedNumbers(t *testing.T) {
	for _, p := range given(t) {
		for _, n := range noSquares {
			for s := range 64 {
				refused(t, p, api.Move{From: n, To: s}, api.ErrArg)
				refused(t, p, api.Move{From: s, To: n}, api.ErrArg)
			}
			for _, o := range noSquares {
				refused(t, p, api.Move{From: n, To: o}, api.ErrArg)
				refused(t, p, api.Move{From: n, To: o, Promo: 5}, api.ErrArg)
			}
		}
	}
	p := at(t, "1n2k3/P7/8/8/8/8/8/4K3", 0, 0, "-")
	for _, n := range noPromos {
		for _, text := range []string{"a7a8", "a7b8", "a7h8", "a7a6", "e1e2", "e1a8"} {
			m := of(text)
			m.Promo = n
			refused(t, p, m, api.ErrArg)
		}
	}
}

// P9.1: each From, To and Promo, on each of the given positions.
func TestEach(t *testing.T) {
	kinds := map[string]int{}
	for _, p := range given(t) {
		if t.Failed() {
			// What fails here fails often: one position's rows are enough.
			return
		}
		for from := range 64 {
			for to := range 64 {
				for promo := range 7 {
					m := api.Move{From: from, To: to, Promo: promo}
					if !isFormed(p, m) {
						kinds["not formed"]++
						if q, e := Make(p, m); Formed(p, m) || q != (api.Pos{}) || e != api.ErrArg {
							t.Error("Make", show(p), m, show(q), e)
						}
						// These two ask Formed: to ask them less often is enough.
						if promo == 0 || promo == 5 {
							refused(t, p, m, api.ErrArg)
						}
						continue
					}
					wanted, takes := doesTake(p, m)
					taken := ""
					if takes {
						taken = name(wanted)
						kinds["takes"]++
					}
					if takes && wanted != to {
						kinds["in passing"]++
					}
					if doesCastle(p, m) {
						kinds["castles"]++
					}
					went(t, p, m, doesCastle(p, m), taken, made(p, m))
				}
			}
		}
	}
	for kind, few := range map[string]int{"not formed": 1000, "takes": 1000, "in passing": 30, "castles": 12} {
		if kinds[kind] < few {
			t.Error("few", kind, kinds[kind])
		}
	}
}

// P9.1: positions that lack something, in the order in which that is told, ahead of a move that isn't formed; everything lacks at first, and is mended step by step.
func TestWrongPosition(t *testing.T) {
	p := at(t, "8/8/PPPPPPPP/PPPP4/8/2Q5/1k6/PKK5", 2, 16, "-")
	p.At[63], p.Ep = 7, 64
	formed := of("b1b8")
	for i, c := range []struct {
		mend func()
		want api.Errno
	}{
		{func() {}, api.ErrArg},
		{func() { p.At[63] = 4 }, api.ErrKings},
		{func() { p.At[place("c1")] = 4 }, api.ErrPawns},
		{func() { p.At[place("a1")] = 2 }, api.ErrMen},
		{func() { p.At[place("a6")], p.At[place("b6")] = 0, 0 }, api.ErrArg},
		{func() { p.Turn = 0 }, api.ErrArg},
		{func() { p.Castle = 15 }, api.ErrArg},
		{func() { p.Ep = place("c6") }, api.ErrTouch},
		{func() { p.At[place("b2")], p.At[place("a8")] = 0, -6 }, api.ErrTouch},
		{func() { p.At[63] = 0 }, api.ErrCastle},
		{func() { p.Castle = 4 }, api.ErrCastle},
		{func() { p.Castle = 0 }, api.ErrPassant},
		{func() { p.At[place("c6")] = 0 }, api.ErrPassant},
	} {
		c.mend()
		if pos.Wrong(p) != c.want {
			t.Error("mended", i, pos.Wrong(p))
		}
		for _, m := range []api.Move{formed, of("a1a1"), of("h4h5"), of("d5c6"), {From: -1, To: 64, Promo: 9}, {From: math.MinInt, To: math.MaxInt}} {
			refused(t, p, m, c.want)
		}
	}
	p.At[place("c5")] = -1
	if _, e := Make(p, formed); e != api.OK {
		t.Error("mended", e)
	}
	refused(t, p, of("a1a1"), api.ErrArg)
}

// P9.1: what is lacking, of each kind by itself, for moves that castle, take, take in passing, and go two ranks.
func TestWrongAlone(t *testing.T) {
	right := at(t, "r3k2r/8/8/3pP3/8/8/5P2/R3K2R", 0, 15, "d6")
	for _, text := range []string{"e1g1", "e1c1", "h1h8", "e5d6", "f2f4", "f2f3"} {
		if e := pos.Wrong(right); e != api.OK || !Formed(right, of(text)) {
			t.Error("right", text, e)
		}
		for _, c := range []struct {
			spoil func(p *api.Pos)
			want  api.Errno
		}{
			{func(p *api.Pos) { p.At[40] = 7 }, api.ErrArg},
			{func(p *api.Pos) { p.At[40] = -128 }, api.ErrArg},
			{func(p *api.Pos) { p.At[40] = 6 }, api.ErrKings},
			{func(p *api.Pos) { p.At[60] = 0 }, api.ErrKings},
			{func(p *api.Pos) { p.At[1] = 1 }, api.ErrPawns},
			{func(p *api.Pos) { copy(p.At[16:32], slices.Repeat([]int8{2}, 16)) }, api.ErrMen},
			{func(p *api.Pos) { p.Turn = 2 }, api.ErrArg},
			{func(p *api.Pos) { p.Turn = -1 }, api.ErrArg},
			{func(p *api.Pos) { p.Turn = math.MinInt }, api.ErrArg},
			{func(p *api.Pos) { p.Castle = 16 }, api.ErrArg},
			{func(p *api.Pos) { p.Castle = -1 }, api.ErrArg},
			{func(p *api.Pos) { p.Ep = -2 }, api.ErrArg},
			{func(p *api.Pos) { p.Ep = 64 }, api.ErrArg},
			{func(p *api.Pos) { p.At[51] = 1 }, api.ErrTouch},
			{func(p *api.Pos) { p.At[60], p.At[11] = 0, -6 }, api.ErrTouch},
			{func(p *api.Pos) { p.At[56] = 0 }, api.ErrCastle},
			{func(p *api.Pos) { p.Ep = 44 }, api.ErrPassant},
			{func(p *api.Pos) { p.Ep = 20 }, api.ErrPassant},
			{func(p *api.Pos) { p.At[51] = -2 }, api.ErrPassant},
		} {
			p := right
			c.spoil(&p)
			refused(t, p, of(text), c.want)
		}
	}
	refused(t, api.Pos{}, api.Move{}, api.ErrKings)
	refused(t, mirrored(right), of("e1g1"), api.ErrArg)
}

// texts are all moves that have one, with their texts, put together from signs.
func texts() map[string]api.Move {
	out := map[string]api.Move{}
	for from := range 64 {
		for to := range 64 {
			for promo, letter := range map[int]string{0: "", 2: "n", 3: "b", 4: "r", 5: "q"} {
				out[name(from)+name(to)+letter] = api.Move{From: from, To: to, Promo: promo}
			}
		}
	}
	return out
}

// P9.2: the text of each move, read again.
func TestText(t *testing.T) {
	all := texts()
	if len(all) != 64*64*5 {
		t.Error("texts", len(all))
	}
	for text, m := range all {
		if got := Text(m); got != text {
			t.Error("Text", m, got, text)
		}
		if got, is := Parse(text); got != m || !is {
			t.Error("Parse", text, got, is)
		}
	}
	for m, want := range map[api.Move]string{
		{From: 12, To: 28}: "e2e4", {From: 52, To: 60, Promo: 4}: "e7e8r", {From: 48, To: 57, Promo: 2}: "a7b8n", {From: 15, To: 6, Promo: 3}: "h2g1b", {From: 15, To: 7, Promo: 5}: "h2h1q",
		{}: "a1a1", {From: 63, To: 63, Promo: 5}: "h8h8q", {From: 12, To: 28, Promo: 5}: "e2e4q",
	} {
		if Text(m) != want {
			t.Error("Text", m, Text(m))
		}
	}
}

// P9.2: moves without a text.
func TestTextNone(t *testing.T) {
	none := func(m api.Move) {
		if Text(m) != "" {
			t.Error("Text", m, Text(m))
		}
	}
	for s := range 64 {
		for promo := range 6 {
			for _, n := range noSquares {
				none(api.Move{From: n, To: s, Promo: promo})
				none(api.Move{From: s, To: n, Promo: promo})
				none(api.Move{From: n, To: n, Promo: promo})
			}
		}
		for _, n := range noPromos {
			none(api.Move{From: s, To: 63 - s, Promo: n})
		}
	}
}

// P9.2: texts that are no move's, told by hand.
func TestParseNone(t *testing.T) {
	for _, text := range []string{
		"", "e", "e2", "e2e", "2e4", "e24", "ee4", "e7e8qq", "e2e4 ", " e2e4", "e2 e4", "e2-e4", "e2e4e5", "e7e8=q", "e7e8q ", "e7e8q\n", "e2e4\n", "e2e4\x00", "e7e8q\x00", "\x00e2e4", strings.Repeat("e2e4", 1000),
		// Signs that stand beside the right ones, great letters, letters that are no man's or a king's or a pawn's.
		"i2e4", "`2e4", "e0e4", "e9e4", "e2i4", "e2`4", "e2e0", "e2e9", "2e4e", "e2/4", "e2:4",
		"E2e4", "e2E4", "E2E4", "E7E8Q", "e7e8Q", "e7e8N", "e7e8B", "e7e8R", "e7e8K", "e7e8P",
		"e7e8k", "e7e8p", "e7e8a", "e7e8s", "e7e8o", "e7e8x", "e7e8-", "e7e80", "e7e85", "e7e8+", "e7e8#", "0000", "O-O", "-", "--", "----",
		// Signs of several bytes: men's, letters that look alike, a digit of another row, and parts of them.
		"e7e8♛", "e7e8♕", "e7e8♞", "e7e8♘", "♞e7e8", "e7♞e8", "e7♞", "♞e8", "♞♞", "♞♞♞", "♞2e4", "e♞e4", "e2♞4", "e2e♞", "е2е4", "e2е4", "e2e４", "ｅ2e4", "e2e4ｑ", "é2e4", "e2é", "ée4", "éé", "e7e8é", "😀", "😀q", "e7e8😀", "\U0010FFFF",
		"e7e8\xff", "\xffe7e8", "e7\xffe8", "\xff\xff\xff\xff", "e2e\xe2", "e7e8\xe2\x99\x9b\xe2", "e7e8\xe2\x99", "e7e8\x9b", "\ufffd2e4", "e7e8\ufffd", "ŷ2e4", "šıšĴ", "e7e8ű",
	} {
		noMove(t, text)
	}
}

func noMove(t *testing.T, text string) {
	t.Helper()
	if m, is := Parse(text); m != (api.Move{}) || is {
		t.Errorf("Parse %q %v %v", text, m, is)
	}
}

// P9.2: some texts, with each byte put in each place, or in front of it, and each taken away.
func TestParseEach(t *testing.T) {
	all := texts()
	ask := func(text string) {
		m, is := Parse(text)
		if want, wanted := all[text]; m != want || is != wanted {
			t.Errorf("Parse %q %v %v", text, m, is)
		}
	}
	for _, text := range []string{"", "e2e4", "a1h8", "h8a1", "e7e8q", "a7b8n", "h2g1b", "d2d1r", "♞♞", "♛e4", "e7♛"} {
		ask(text)
		for i := range len(text) + 1 {
			for b := range 256 {
				ask(text[:i] + string([]byte{byte(b)}) + text[i:])
				if i < len(text) {
					ask(text[:i] + string([]byte{byte(b)}) + text[i+1:])
				}
			}
			if i < len(text) {
				ask(text[:i] + text[i+1:])
				ask(text[:i])
				ask(text[i:])
			}
		}
	}
	// Every sign of which the right one might be left if it were cut to fewer bits.
	for sign := range rune(0x3000) {
		for _, text := range []string{"e2e4", "e7e8q"} {
			for i := range text {
				ask(text[:i] + string(sign) + text[i+1:])
			}
			ask(text + string(sign))
		}
	}
	for _, high := range []rune{0x10000, 0x10100, 0x10F00, 0x100000} {
		for _, low := range "abcdefgh12345678nbrq" {
			for i := range 5 {
				ask("e7e8q"[:i] + string(high+low) + "e7e8q"[i+1:])
			}
		}
	}
}

// comesFirst is the order of moves, asked part by part.
func comesFirst(a, b api.Move) bool {
	if a.From != b.From {
		return a.From < b.From
	}
	if a.To != b.To {
		return a.To < b.To
	}
	return a.Promo > b.Promo
}

// P9.2: the order of moves: by From, then To, then Promo, the greater Promo first.
func TestLess(t *testing.T) {
	rising := []string{"a1a2", "a1h8", "b1a3", "b1c3", "a7a8q", "a7a8r", "a7a8b", "a7a8n", "a7a8", "a7b8q", "a7b8n", "b7a8q", "b7a8n", "a8a1", "h8a1", "h8h8q", "h8h8"}
	for i, a := range rising {
		for j, b := range rising {
			if Less(of(a), of(b)) != (i < j) {
				t.Error("Less", a, b)
			}
		}
	}
	numbers := []int{math.MinInt, math.MinInt + 1, -1, 0, 1, 2, 5, 63, 64, 1 << 32, math.MaxInt - 1, math.MaxInt}
	var all []api.Move
	for _, from := range numbers {
		for _, to := range numbers {
			for _, promo := range numbers {
				all = append(all, api.Move{From: from, To: to, Promo: promo})
			}
		}
	}
	for _, a := range all {
		for _, b := range all {
			if Less(a, b) != comesFirst(a, b) {
				t.Fatal("Less", a, b)
			}
		}
	}
}

// R5: what was asked ahead changes no answer; R4: what is handed in stays.
func TestAgain(t *testing.T) {
	p := at(t, "r3k2r/8/8/3pP3/8/8/8/R3K2R", 0, 15, "d6")
	kept := p
	for range 2 {
		went(t, p, of("e5d6"), false, "d5", at(t, "r3k2r/8/3P4/8/8/8/8/R3K2R", 1, 15, "-"))
		went(t, p, of("e1c1"), true, "", at(t, "r3k2r/8/8/3pP3/8/8/8/2KR3R", 1, 12, "-"))
		refused(t, p, of("e1e1"), api.ErrArg)
		refused(t, api.Pos{}, of("e1e2"), api.ErrKings)
		noMove(t, "e1e9")
		if m, is := Parse("e7e8q"); Text(m) != "e7e8q" || !is || p != kept {
			t.Error("again", m, is)
		}
	}
}
