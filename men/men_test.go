package men

import (
	"math"
	"strings"
	"testing"
	"unicode/utf8"
)

// known is each man with all that the chapter tells of him, written out so that no test leans on the program's own sums.
var known = []struct {
	m, kind, side int
	letter, sign  string
	worth         int
}{
	{1, 1, 0, "P", "\u2659", 1}, {2, 2, 0, "N", "\u2658", 3}, {3, 3, 0, "B", "\u2657", 3},
	{4, 4, 0, "R", "\u2656", 5}, {5, 5, 0, "Q", "\u2655", 9}, {6, 6, 0, "K", "\u2654", 0},
	{-1, 1, 1, "p", "\u265f", 1}, {-2, 2, 1, "n", "\u265e", 3}, {-3, 3, 1, "b", "\u265d", 3},
	{-4, 4, 1, "r", "\u265c", 5}, {-5, 5, 1, "q", "\u265b", 9}, {-6, 6, 1, "k", "\u265a", 0},
}

// noMen are numbers that are none; some of them would be one if they were cut to fewer bits, or turned about.
var noMen = []int{0, 7, -7, 8, -8, 9, -9, 11, 12, -12, 13, 64, 127, 128, -128, 250, 255, 256, 257, -255, 262, 1 << 16, 1<<16 + 1, 1<<32 + 1, -1<<32 - 1, math.MinInt32, math.MaxInt32, math.MinInt + 1, math.MinInt, math.MaxInt - 1, math.MaxInt}

// noSides are numbers that are no side; some of them would be one if they were cut to fewer bits.
var noSides = []int{-1, -2, 2, 3, 4, -128, 128, 255, 256, 257, 1 << 16, 1 << 32, 1<<32 + 1, math.MinInt32, math.MaxInt32, math.MinInt, math.MinInt + 1, math.MaxInt - 1, math.MaxInt}

// ofLetters are the men of all letters and signs.
func ofLetters() map[string]int {
	all := map[string]int{}
	for _, c := range known {
		all[c.letter] = c.m
		all[c.sign] = c.m
	}
	return all
}

// P2.1: Right, Kind, Side, Make, Letter and Sign, of each man.
func TestEachMan(t *testing.T) {
	for _, c := range known {
		if !Right(c.m) {
			t.Error("Right", c.m)
		}
		if Kind(c.m) != c.kind || Side(c.m) != c.side {
			t.Error("Kind, Side", c.m, Kind(c.m), Side(c.m))
		}
		if m := Make(c.kind, c.side); m != c.m {
			t.Error("Make", c.kind, c.side, m)
		}
		if Letter(c.m) != c.letter || Sign(c.m) != c.sign {
			t.Errorf("Letter, Sign %d %q %q", c.m, Letter(c.m), Sign(c.m))
		}
	}
}

// P2.1, P2.2: what is no man.
func TestNoMan(t *testing.T) {
	for _, m := range noMen {
		if Right(m) {
			t.Error("Right", m)
		}
		if Kind(m) != 0 || Side(m) != -1 || Worth(m) != 0 {
			t.Error("Kind, Side, Worth", m, Kind(m), Side(m), Worth(m))
		}
		if Letter(m) != "" || Sign(m) != "" {
			t.Errorf("Letter, Sign %d %q %q", m, Letter(m), Sign(m))
		}
	}
}

// P2.1: Make, of kinds and sides that there aren't: a black man's number is no kind.
func TestMakeWrong(t *testing.T) {
	check := func(kind, side int) {
		if m := Make(kind, side); m != 0 {
			t.Error("Make", kind, side, m)
		}
	}
	noKinds := append([]int{-1, -2, -3, -4, -5, -6}, noMen...)
	for _, kind := range noKinds {
		check(kind, 0)
		check(kind, 1)
		for _, side := range noSides {
			check(kind, side)
		}
	}
	for kind := 1; kind <= 6; kind++ {
		for _, side := range noSides {
			check(kind, side)
		}
	}
}

// P2.2: Of, of each letter and sign, and with something ahead of or behind it.
func TestOfEachMan(t *testing.T) {
	for _, c := range known {
		for _, text := range []string{c.letter, c.sign} {
			if m, is := Of(text); m != c.m || !is {
				t.Errorf("Of %q %d %v", text, m, is)
			}
			for _, more := range []string{" ", "\n", "\x00", "K", "p", "1", "\u2654", "\u265f", "\ufe0e", "\ufe0f", "\u0301", "\ufeff", "\ufffd", "\xff", "\x80", "\xe2", "\xe2\x99", text} {
				checkNone(t, text+more)
				checkNone(t, more+text)
			}
		}
	}
}

// P2.2: Of, of texts that are no man's.
func TestOfNone(t *testing.T) {
	for _, text := range []string{
		"", "-", "x", "z", "A", "0", "1", "6", "-1", "+", " ", "\x00", "\n",
		"S", "s", "L", "D", "T", "O", "o", "M", "C", "c", "J", "l",
		"KK", "kq", "King", "king", "pawn", "PNBRQK", "pnbrqk", "KQRBNPkqrbnp", "♔♕♖♗♘♙♚♛♜♝♞♟", "♔♔", strings.Repeat("K", 5000), strings.Repeat("♟", 5000),
		"\u2653", "\u2660", "\u2664", "\u265f\ufe0e", "\U0001fa00", "\U0001f451",
		"К", "Р", "В", "р", "к", "Ν", "Ｋ", "ｋ", "\u212a", "\u0131", "\u014b", "\u0150", "\u024b", "\U0001004b", "ḱ",
		"\xff", "\x80", "\xe2", "\xe2\x99", "\x99\x94", "\x94", "\x54\x26", "\xc1\x8b", "\xc1\xab", "\xe0\x81\x8b", "\xf0\x82\x99\x94", "\xed\xa0\x80", "\ufffd", "\ufeff", "\ufeffK",
	} {
		checkNone(t, text)
	}
}

func checkNone(t *testing.T, text string) {
	t.Helper()
	if m, is := Of(text); m != 0 || is {
		t.Errorf("Of %q %d %v", text, m, is)
	}
}

// P2.2: Of, of every text of one rune.
func TestOfEachRune(t *testing.T) {
	all := ofLetters()
	for r := range rune(utf8.MaxRune + 1) {
		if !utf8.ValidRune(r) {
			continue
		}
		text := string(r)
		want, ok := all[text]
		if m, is := Of(text); m != want || is != ok {
			t.Errorf("Of %q %d %v", text, m, is)
		}
	}
}

// P2.2: Of, of every text of one byte or two, and of three of which the first is that of the signs.
func TestOfShortTexts(t *testing.T) {
	all := ofLetters()
	check := func(text ...byte) {
		want, ok := all[string(text)]
		if m, is := Of(string(text)); m != want || is != ok {
			t.Errorf("Of %q %d %v", text, m, is)
		}
	}
	for a := range 256 {
		check(byte(a))
		for b := range 256 {
			check(byte(a), byte(b))
			check(0xe2, byte(a), byte(b))
		}
	}
}

// P2.2: Worth, of each man.
func TestWorth(t *testing.T) {
	for _, c := range known {
		if Worth(c.m) != c.worth {
			t.Error("Worth", c.m, Worth(c.m))
		}
	}
}

// P2.2: Other, of the sides, and of what is none.
func TestOther(t *testing.T) {
	if Other(0) != 1 || Other(1) != 0 {
		t.Error("Other", Other(0), Other(1))
	}
	for _, side := range noSides {
		if Other(side) != -1 {
			t.Error("Other", side, Other(side))
		}
	}
}
