package roll

import (
	"sort"
	"strings"
	"testing"

	"alfil/api"
	"alfil/board"
)

const (
	letters = "PNBRQK"
	none    = "white black"
	first   = "white Ke1 Qd1 Ra1 Rh1 Bc1 Bf1 Nb1 Ng1 Pa2 Pb2 Pc2 Pd2 Pe2 Pf2 Pg2 Ph2 black Ke8 Qd8 Ra8 Rh8 Bc8 Bf8 Nb8 Ng8 Pa7 Pb7 Pc7 Pd7 Pe7 Pf7 Pg7 Ph7"
	// mixed has a man of each kind and side, two of some, and is tidy.
	mixed = "white Kf1 Qa4 Qd4 Re1 Bd3 Nh4 Pa2 Pb2 Pg2 Pb7 black Ke8 Qc6 Ra8 Bc8 Nh7 Pa5 Pf7 Pg7"
	// untidy is mixed in another order.
	untidy = "white Pb7 Pg2 Nh4 Qd4 Pa2 Kf1 Qa4 Bd3 Re1 Pb2 black Pg7 Bc8 Ra8 Nh7 Ke8 Pf7 Pa5 Qc6"
)

// place is the number of a square's name, found by its signs' places; -1, if it is none.
func place(name string) int {
	if len(name) != 2 {
		return -1
	}
	file, rank := strings.IndexByte("abcdefgh", name[0]), strings.IndexByte("12345678", name[1])
	if file < 0 || rank < 0 {
		return -1
	}
	return rank*8 + file
}

// near tells whether item is a man with its square, or the beginning of one; and whether it is whole.
func near(item string) (begins, whole bool) {
	all := []string{letters, "abcdefgh", "12345678"}
	if len(item) > len(all) {
		return false, false
	}
	for i := range len(item) {
		if strings.IndexByte(all[i], item[i]) < 0 {
			return false, false
		}
	}
	return true, len(item) == len(all)
}

// judged tells whether some roll begins with t, and whether t is a whole one, by its parts between blanks as wholes.
func judged(t string) (begins, whole bool) {
	parts := strings.Split(t, " ")
	last := len(parts) - 1
	if last == 0 {
		return strings.HasPrefix("white", t), false
	}
	if parts[0] != "white" {
		return false, false
	}
	named, turned := map[string]bool{}, false
	for i, part := range parts[1:] {
		atEnd := i+1 == last
		if !turned && (part == "black" || atEnd && part != "" && strings.HasPrefix("black", part)) {
			turned = true
			whole = part == "black"
			continue
		}
		begins, full := near(part)
		if !begins || !full && !atEnd || full && named[part[1:]] {
			return false, false
		}
		if full {
			named[part[1:]] = true
		}
		whole = full && turned
	}
	return true, whole
}

// pictured is the board of a whole roll.
func pictured(t string) api.Board {
	var b api.Board
	side := int8(1)
	for _, part := range strings.Split(t, " ")[1:] {
		if part == "black" {
			side = -1
			continue
		}
		b[place(part[1:])] = side * int8(strings.IndexByte(letters, part[0])+1)
	}
	return b
}

// wanted is what Read is to answer, from all beginnings of t.
func wanted(t string) (api.Board, int, api.Errno) {
	// What begins no roll begins none with more behind it either.
	n := sort.Search(len(t), func(n int) bool {
		begins, _ := judged(t[:n+1])
		return !begins
	})
	if n < len(t) {
		return api.Board{}, n, api.ErrText
	}
	if _, whole := judged(t); whole {
		return pictured(t), len(t), api.OK
	}
	return api.Board{}, len(t), api.ErrEnd
}

// hold holds what Read answers for t against what is wanted.
func hold(t *testing.T, text string) {
	t.Helper()
	b, at, e := Read(text)
	wantB, wantAt, wantE := wanted(text)
	if b != wantB || at != wantAt || e != wantE {
		t.Errorf("Read %q: %v %v %v, not %v %v %v", text, b, at, e, wantB, wantAt, wantE)
	}
}

// answers holds what Read answers for a text that is no whole roll against a place and an error.
func answers(t *testing.T, text string, at int, wrong api.Errno) {
	t.Helper()
	if b, n, e := Read(text); b != (api.Board{}) || n != at || e != wrong {
		t.Errorf("Read %q: %v %v %v, not %v %v", text, b, n, e, at, wrong)
	}
}

// standing is an empty board with men on some squares.
func standing(men map[int]int8) api.Board {
	var b api.Board
	for s, m := range men {
		b[s] = m
	}
	return b
}

// names are the names of all squares, rising.
func names() []string {
	var all []string
	for _, rank := range "12345678" {
		for _, file := range "abcdefgh" {
			all = append(all, string(file)+string(rank))
		}
	}
	return all
}

// crowd is a man of that letter on each of some squares, with a blank ahead of each.
func crowd(letter string, squares []string) string {
	text := ""
	for _, name := range squares {
		text += " " + letter + name
	}
	return text
}

// P5.1: Read, whole rolls, tidy and not, with men of both sides, of one, and with none.
func TestReadWhole(t *testing.T) {
	for text, want := range map[string]api.Board{
		none:                          {},
		first:                         board.First(),
		"white Kg1 Pa2 black Ke8":     standing(map[int]int8{6: 6, 8: 1, 60: -6}),
		"white Pa2 Kg1 black Ke8":     standing(map[int]int8{6: 6, 8: 1, 60: -6}),
		"white Ka1 black":             standing(map[int]int8{0: 6}),
		"white black Ka1":             standing(map[int]int8{0: -6}),
		"white Qh8 black":             standing(map[int]int8{63: 5}),
		"white black Rh8":             standing(map[int]int8{63: -4}),
		"white Bb1 black":             standing(map[int]int8{1: 3}),
		"white Bb1 Bb2 black Bb3 Bb4": standing(map[int]int8{1: 3, 9: 3, 17: -3, 25: -3}),
		"white black Na8":             standing(map[int]int8{56: -2}),
		"white Ph1 black":             standing(map[int]int8{7: 1}),
		"white black Pa1 Ph8":         standing(map[int]int8{0: -1, 63: -1}),
		"white Ka1 Kb1 Kc1 black":     standing(map[int]int8{0: 6, 1: 6, 2: 6}),
		"white Pa2 Nb2 Bc2 Rd2 Qe2 Kf2 black Pc1 Nd1 Be1 Rf1 Qg1 Kh1": standing(map[int]int8{8: 1, 9: 2, 10: 3, 11: 4, 12: 5, 13: 6, 2: -1, 3: -2, 4: -3, 5: -4, 6: -5, 7: -6}),
		mixed:  pictured(mixed),
		untidy: pictured(mixed),
	} {
		if b, n, e := Read(text); b != want || n != len(text) || e != api.OK {
			t.Errorf("Read %q: %v %v %v", text, b, n, e)
		}
	}
}

// P5.1: Read, rolls that end within, also behind a place where one may end.
func TestReadEnd(t *testing.T) {
	for _, text := range []string{
		"", "w", "wh", "whi", "whit", "white", "white ", "white b", "white bl", "white bla", "white blac",
		"white K", "white Kg", "white Kg1", "white Kg1 ", "white Kg1 b", "white Kg1 B", "white Kg1 Bb", "white Kg1 Bb1", "white Kg1 Bb1 blac",
		"white B", "white Bb", "white Bb1 b",
		"white black ", "white black K", "white black Ka", "white black Ka1 ", "white black Ka1 Q", "white black Ka1 Qb",
		"white Kg1 black ", "white Kg1 black K", "white Kg1 black Kg",
		first + " ", first + " P", first + " Pa",
	} {
		answers(t, text, len(text), api.ErrEnd)
	}
}

// P5.1: Read, rolls that are wrong.
func TestReadWrong(t *testing.T) {
	for text, at := range map[string]int{
		"x": 0, " ": 0, " white black": 0, "White": 0, "WHITE": 0, "black": 0, "Kg1": 0, "\n": 0,
		"wi": 1, "wW": 1, "whitf": 4, "whitE": 4, "whit ": 4, "whiteKg1": 5, "white\tKg1": 5, "white\nblack": 5, "whiteblack": 5, "whites": 5, "white\u00a0black": 5,
		// Men's small letters, letters that are no man's, and what is no letter.
		"white kg1": 6, "white qg1": 6, "white rg1": 6, "white ng1": 6, "white pg1": 6, "white w": 6, "white white": 6, "white Black": 7,
		"white Ag1": 6, "white Sg1": 6, "white Lg1": 6, "white Og1": 6, "white Zg1": 6, "white ag1": 6, "white g1": 6, "white e4": 6,
		"white  ": 6, "white  black": 6, "white  Kg1": 6, "white \n": 6, "white 1": 6, "white -": 6, "white ,": 6, "white @": 6, "white [": 6,
		"white bx": 7, "white bb1": 7, "white bg1": 7, "white b ": 7, "white b1": 7, "white bla ": 9, "white blacK": 10,
		"white blackKe8": 11, "white black\n": 11, "white blacks": 11, "white black,": 11, "white black\x00": 11,
		"white black  ": 12, "white black  Ke8": 12, "white black ke8": 12, "white black be8": 12, "white black black": 12, "white black white": 12, "white black b": 12, "white black w": 12,
		"white Kg1 black black": 16, "white Kg1 black Kg1 black": 18, "white Kg1 black Kg2 black": 20,
		// Names that are no square's.
		"white K ": 7, "white K1": 7, "white Ki1": 7, "white KG1": 7, "white K`1": 7, "white KK": 7, "white K\xe1": 7, "white Kxg1": 7, "white K-g1": 7, "white Kz": 7, "white K@": 7,
		"white Kg0": 8, "white Kg9": 8, "white Kgg": 8, "white Kg ": 8, "white Kg-1": 8, "white Kg/": 8, "white Kg:": 8, "white Kg１": 8, "white Kg١": 8,
		"white Kg1x": 9, "white Kg1,Kg2": 9, "white Kg11": 9, "white Kg1Kg2": 9, "white Kg1black": 9, "white Kg1\x00": 9, "white Kg1\n": 9,
		"white Kg1  ": 10, "white Kg1  black": 10, "white Kg1 g2": 10, "white Kg1 white": 10,
		"white black Ki": 13, "white black Ka0": 14, "white black Ka9": 14, "white black Ka1\n": 15, "white black Ka1 \n": 16, "white black Ka1  ": 16,
		first + "\n": len(first), first + "x": len(first), first + "1": len(first), first + "  ": len(first) + 1, first + " black": len(first) + 1,
		// Bytes and signs beyond the letters.
		"♔": 0, "é": 0, "\xff": 0, "\x80": 0, "\ufffd": 0, "ｗhite": 0, "w\u0125ite": 1, "white\x80": 5, "white\xe2\x99": 5, "white\u2003": 5,
		"white ♔": 6, "white ♔g1": 6, "white ♚g1": 6, "white \xe2": 6, "white \ufffd": 6, "white \x80": 6, "white \xcb": 6, "white \u212ag1": 6, "white \U0001004bg1": 6, "white Ｋg1": 6, "white К": 6,
		"white Kа1": 7, "white K\u0261": 7, "white K\xff": 7, "white Kg\x80": 8, "white Kg\ufffd": 8, "white Kg1♔": 9, "white Kg1\xff": 9, "white black♚": 11, "white black ♚e8": 12, "white black\u3000": 11,
	} {
		answers(t, text, at, api.ErrText)
	}
	answers(t, strings.Repeat("white ", 5000), 6, api.ErrText)
	answers(t, "white Ka1"+strings.Repeat(" Ka1", 5000), 12, api.ErrText)
}

// P5.1: Read, a square that is named a second time, by either side: wrong at its rank's digit, and nowhere ahead of that.
func TestReadTwice(t *testing.T) {
	for i, name := range names() {
		one := letters[i%6 : i%6+1]
		for _, letter := range letters {
			for _, ahead := range []string{
				"white " + one + name + " ",
				"white " + one + name + " black ",
				"white black " + one + name + " ",
				"white " + one + name + " Ka1 Kh8 black Qd4 ",
				"white Ka1 Kh8 black " + one + name + " Qd4 ",
			} {
				if strings.Count(ahead, name) > 1 {
					continue
				}
				text := ahead + string(letter) + name
				for n := len(ahead); n < len(text); n++ {
					answers(t, text[:n], n, api.ErrEnd)
				}
				answers(t, text, len(text)-1, api.ErrText)
				answers(t, text+" ", len(text)-1, api.ErrText)
				answers(t, text+" black", len(text)-1, api.ErrText)
			}
		}
	}
	answers(t, "white Kg1 Kg1 Kg1 black", 12, api.ErrText)
	answers(t, "white Kg1 Qg1 black", 12, api.ErrText)
	answers(t, "white Kg1 black Kg1", 18, api.ErrText)
}

// P5.1: Read, files and boards that are full: no square is left, but nothing is wrong ahead of a rank's digit.
func TestReadFull(t *testing.T) {
	for _, file := range "abcdefgh" {
		var squares []string
		for _, name := range names() {
			if name[:1] == string(file) {
				squares = append(squares, name)
			}
		}
		for _, text := range []string{"white" + crowd("Q", squares), "white" + crowd("Q", squares) + " black", none + crowd("Q", squares)} {
			again := text + " N" + string(file)
			answers(t, again, len(again), api.ErrEnd)
			for _, digit := range "0123456789 x" {
				answers(t, again+string(digit), len(again), api.ErrText)
			}
		}
	}
	whites := "white" + crowd("P", names())
	blacks := none + crowd("K", names())
	halves := "white" + crowd("B", names()[:32]) + " black" + crowd("N", names()[32:])
	answers(t, whites, len(whites), api.ErrEnd)
	for _, text := range []string{whites + " black", blacks, halves} {
		if b, n, e := Read(text); b != pictured(text) || n != len(text) || e != api.OK {
			t.Errorf("Read %q: %v %v %v", text, b, n, e)
		}
	}
	for _, text := range []string{whites, whites + " black", blacks, halves} {
		for _, more := range []string{" ", " K", " Ka", " Kh"} {
			answers(t, text+more, len(text+more), api.ErrEnd)
		}
		for _, name := range names() {
			answers(t, text+" R"+name, len(text)+3, api.ErrText)
		}
	}
}

// P5.1: Read, every beginning of rolls, and every byte behind each.
func TestReadBeginnings(t *testing.T) {
	for _, text := range []string{
		none, mixed, untidy, "white Kg1 Pa2 black Ke8", "white Bb1 black Bb8", "white Ba1 Bb2 black", "white black Qh8 Ra1 Bb2", "white Kg1 Kg1 black", "white Kg1 black Kg1 Ka1",
	} {
		for n := range len(text) + 1 {
			hold(t, text[:n])
			for c := range 256 {
				hold(t, text[:n]+string([]byte{byte(c)}))
				hold(t, text[:n]+string([]byte{byte(c)})+text[n:])
				if n < len(text) {
					hold(t, text[:n]+string([]byte{byte(c)})+text[n+1:])
				}
			}
			for _, sign := range "♔♕♖♗♘♙♚♛♜♝♞♟éß１\ufffd" {
				hold(t, text[:n]+string(sign)+text[n:])
			}
		}
	}
	for n := range len(first) + 1 {
		hold(t, first[:n])
	}
}

// P5.1: Read, all texts of one and two bytes, alone and where a man or a word may stand, and all short ones of signs that are near to right.
func TestReadShort(t *testing.T) {
	heads := []string{"", "white", "white ", "white K", "white Kg", "white Kg1", "white black", "white black ", "white black Kg1"}
	for c := range 256 {
		for d := range 256 {
			for _, head := range heads {
				hold(t, head+string([]byte{byte(c), byte(d)}))
			}
		}
		hold(t, string([]byte{byte(c)}))
	}
	for _, head := range []string{"white", "white ", "white black ", "white Bb1 "} {
		short := []string{head}
		for range 5 {
			var longer []string
			for _, text := range short {
				for _, c := range " Bbl18g" {
					longer = append(longer, text+string(c))
				}
			}
			for _, text := range longer {
				hold(t, text)
			}
			short = longer
		}
	}
}

// P5.2: Write, boards and their tidy rolls.
func TestWrite(t *testing.T) {
	for _, text := range []string{
		none, first, mixed, "white Kg1 Pa2 black Ke8",
		"white Ka1 black", "white black Ka1", "white black Ph8", "white Bb1 black", "white Pa1 Ph8 black",
		"white Ka1 Kh8 black Kb1 Kg8",
		"white Kh8 Qg8 Rf8 Be8 Nd8 Pc8 black Kf1 Qe1 Rd1 Bc1 Nb1 Pa1",
		"white Nh1 Na2 Nc4 Nb5 black Pg1 Pb2 Pg7",
		"white" + crowd("P", names()) + " black", none + crowd("K", names()),
		"white" + crowd("B", names()[:32]) + " black" + crowd("N", names()[32:]),
	} {
		if got, e := Write(pictured(text)); got != text || e != api.OK {
			t.Errorf("Write %q: %q %v", text, got, e)
		}
	}
	if got, e := Write(board.First()); got != first || e != api.OK {
		t.Errorf("Write, the first board: %q %v", got, e)
	}
	b, _, _ := Read(untidy)
	if got, e := Write(b); got != mixed || e != api.OK {
		t.Errorf("Write, what was read of an untidy roll: %q %v", got, e)
	}
}

// sorted tells whether the men of each side stand by kinds, and those of a kind by squares.
func sorted(text string) bool {
	for _, men := range strings.Split(strings.TrimPrefix(text, "white"), " black") {
		if !sort.SliceIsSorted(strings.Fields(men), func(i, j int) bool {
			a, b := strings.Fields(men)[i], strings.Fields(men)[j]
			kindA, kindB := strings.IndexByte("KQRBNP", a[0]), strings.IndexByte("KQRBNP", b[0])
			return kindA < kindB || kindA == kindB && place(a[1:]) < place(b[1:])
		}) {
			return false
		}
	}
	return true
}

// P5.2: Write, each man on each square, alone and among others, and boards that are filled in turns; what is written is tidy, and is read.
func TestWriteIsRead(t *testing.T) {
	again := func(b api.Board) {
		t.Helper()
		text, e := Write(b)
		if c, n, wrong := Read(text); e != api.OK || c != b || n != len(text) || wrong != api.OK {
			t.Errorf("Write %v: %q %v, read as %v %v %v", b, text, e, c, n, wrong)
		}
		if !sorted(text) || b != pictured(text) {
			t.Errorf("Write %v: %q isn't its tidy roll", b, text)
		}
	}
	for s := range 64 {
		for m := -6; m <= 6; m++ {
			again(standing(map[int]int8{s: int8(m)}))
			for _, text := range []string{first, mixed, none + crowd("Q", names())} {
				b := pictured(text)
				b[s] = int8(m)
				again(b)
			}
		}
	}
	for step := 1; step < 64; step++ {
		var b api.Board
		for s := range b {
			b[s] = int8(s*step%13 - 6)
		}
		again(b)
	}
}

// P5.2: Write, boards that may be none: each number on each square.
func TestWriteWrong(t *testing.T) {
	for _, text := range []string{none, first, none + crowd("Q", names())} {
		for s := range 64 {
			for n := -128; n <= 127; n++ {
				b := pictured(text)
				b[s] = int8(n)
				got, e := Write(b)
				if -6 <= n && n <= 6 {
					if got == "" || e != api.OK {
						t.Errorf("Write, %v on %v: %q %v", n, s, got, e)
					}
				} else if got != "" || e != api.ErrArg {
					t.Errorf("Write, %v on %v: %q %v", n, s, got, e)
				}
			}
		}
	}
}
