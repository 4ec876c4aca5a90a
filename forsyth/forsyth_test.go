package forsyth

import (
	"sort"
	"strings"
	"testing"

	"alfil/api"
	"alfil/board"
)

const (
	letters = "PNBRQKpnbrqk"
	first   = "rnbqkbnr/pppppppp/8/8/8/8/PPPPPPPP/RNBQKBNR"
	empty   = "8/8/8/8/8/8/8/8"
	// mixed has a man of each kind and side, and rows that begin and end with men and with nothing.
	mixed = "r1b1k3/1P3ppn/2q5/p7/3Q3N/3B4/PP4P1/4RK2"
	// long is mixed with other digits.
	long = "r1b1k111/1P21ppn/11q23/p1111111/3Q12N/12B1111/PP13P1/31RK11"
	// full has no empty square.
	full = "rnbqkbnr/pppppppp/PPPPPPPP/QQQQQQQQ/qqqqqqqq/NBRKnbrk/kkkkkkkk/RNBQKBNR"
)

// man is the number of a letter, found by its place; 0, if it is none.
func man(letter byte) int8 {
	at := strings.IndexByte(letters, letter)
	switch {
	case at < 0:
		return 0
	case at < 6:
		return int8(at + 1)
	}
	return int8(5 - at)
}

// spread is a row with a dot for each empty square instead of digits.
func spread(row string) string {
	for n := 1; n <= 8; n++ {
		row = strings.ReplaceAll(row, string(rune('0'+n)), strings.Repeat(".", n))
	}
	return row
}

// begins tells whether some Forsyth text begins with t, by its rows as wholes.
func begins(t string) bool {
	rows := strings.Split(t, "/")
	for i, row := range rows {
		if strings.Trim(row, letters+"12345678") != "" {
			return false
		}
		n := len(spread(row))
		if n > 8 || i < len(rows)-1 && n != 8 {
			return false
		}
	}
	return len(rows) <= 8
}

// pictured is the board of a whole text.
func pictured(t string) api.Board {
	var b api.Board
	for i, row := range strings.Split(t, "/") {
		for file, letter := range []byte(spread(row)) {
			b[(7-i)*8+file] = man(letter)
		}
	}
	return b
}

// wanted is what Read is to answer, from all beginnings of t.
func wanted(t string) (api.Board, int, api.Errno) {
	// What begins no text begins none with more behind it either.
	if n := sort.Search(len(t), func(n int) bool { return !begins(t[:n+1]) }); n < len(t) {
		return api.Board{}, n, api.ErrText
	}
	if !begins(t+"/") && len(spread(t)) == 71 {
		return pictured(t), len(t), api.OK
	}
	return api.Board{}, len(t), api.ErrEnd
}

// hold holds what Read answers for t against what is wanted.
func hold(t *testing.T, text string) {
	t.Helper()
	b, at, e := Read(text)
	wantB, wantAt, wantE := wanted(text)
	if b != wantB || at != wantAt || e != wantE {
		t.Errorf("Read %q: %v %v %v, not %v %v %v", text, b, at, e, wantB, wantAt, wantE)
	}
}

// standing is an empty board with men on some squares.
func standing(men map[int]int8) api.Board {
	var b api.Board
	for s, m := range men {
		b[s] = m
	}
	return b
}

// P4.1: Read, whole texts, the shortest and others.
func TestReadWhole(t *testing.T) {
	for text, want := range map[string]api.Board{
		empty:                           {},
		first:                           board.First(),
		"8/8/8/8/8/8/8/4K2k":            standing(map[int]int8{4: 6, 7: -6}),
		"4k2K/8/8/8/8/8/8/8":            standing(map[int]int8{60: -6, 63: 6}),
		"11p5/8/8/8/8/8/8/7K":           standing(map[int]int8{58: -1, 7: 6}),
		"8/8/8/8/8/8/8/P7":              standing(map[int]int8{0: 1}),
		"8/8/8/8/8/8/8/7n":              standing(map[int]int8{7: -2}),
		"B7/8/8/8/8/8/8/8":              standing(map[int]int8{56: 3}),
		"7r/8/8/8/8/8/8/8":              standing(map[int]int8{63: -4}),
		"8/8/8/8/4Q3/8/8/8":             standing(map[int]int8{28: 5}),
		"8/8/8/8/1111Q111/8/8/8":        standing(map[int]int8{28: 5}),
		"44/8/71/17/53/35/62/26":        {},
		"11111111/8/8/8/8/8/8/2222":     {},
		"8/8/8/8/8/8/PNBRQK2/2pnbrqk":   standing(map[int]int8{8: 1, 9: 2, 10: 3, 11: 4, 12: 5, 13: 6, 2: -1, 3: -2, 4: -3, 5: -4, 6: -5, 7: -6}),
		"8/8/8/8/8/8/PNBRQK11/11pnbrqk": standing(map[int]int8{8: 1, 9: 2, 10: 3, 11: 4, 12: 5, 13: 6, 2: -1, 3: -2, 4: -3, 5: -4, 6: -5, 7: -6}),
		mixed:                           pictured(mixed),
		long:                            pictured(mixed),
		full:                            pictured(full),
	} {
		if b, n, e := Read(text); b != want || n != len(text) || e != api.OK {
			t.Errorf("Read %q: %v %v %v", text, b, n, e)
		}
	}
}

// P4.1: Read, texts that are wrong, or end within.
func TestReadWrong(t *testing.T) {
	for text, want := range map[string]struct {
		at int
		e  api.Errno
	}{
		"":                         {0, api.ErrEnd},
		"r":                        {1, api.ErrEnd},
		"7":                        {1, api.ErrEnd},
		"8":                        {1, api.ErrEnd},
		"8/":                       {2, api.ErrEnd},
		"rnbqkbnr":                 {8, api.ErrEnd},
		"11111111/":                {9, api.ErrEnd},
		"8/8/8/8/8/8/8":            {13, api.ErrEnd},
		"8/8/8/8/8/8/8/":           {14, api.ErrEnd},
		"8/8/8/8/8/8/8/7":          {15, api.ErrEnd},
		"8/8/8/8/8/8/8/1111111":    {21, api.ErrEnd},
		"/":                        {0, api.ErrText},
		"//":                       {0, api.ErrText},
		"8//":                      {2, api.ErrText},
		"8/8//":                    {4, api.ErrText},
		"7/":                       {1, api.ErrText},
		"ppppppp/8/8/8/8/8/8/8":    {7, api.ErrText},
		"8/8/8/8/8/8/8/7/":         {15, api.ErrText},
		"44k":                      {2, api.ErrText},
		"54":                       {1, api.ErrText},
		"81":                       {1, api.ErrText},
		"88":                       {1, api.ErrText},
		"p8":                       {1, api.ErrText},
		"ppppppppp":                {8, api.ErrText},
		"8/pppp5/8":                {6, api.ErrText},
		"111111111":                {8, api.ErrText},
		"0":                        {0, api.ErrText},
		"9":                        {0, api.ErrText},
		"8/9":                      {2, api.ErrText},
		"8/0":                      {2, api.ErrText},
		"80":                       {1, api.ErrText},
		"08":                       {0, api.ErrText},
		"70K":                      {1, api.ErrText},
		"10":                       {1, api.ErrText},
		"x":                        {0, api.ErrText},
		"8/x":                      {2, api.ErrText},
		"s7/8/8/8/8/8/8/8":         {0, api.ErrText},
		"a":                        {0, api.ErrText},
		"-1":                       {0, api.ErrText},
		"+8":                       {0, api.ErrText},
		".":                        {0, api.ErrText},
		" " + empty:                {0, api.ErrText},
		"8 /8/8/8/8/8/8/8":         {1, api.ErrText},
		"8\n8":                     {1, api.ErrText},
		"8\\8":                     {1, api.ErrText},
		"é":                        {0, api.ErrText},
		"♔":                        {0, api.ErrText},
		"8/♔7":                     {2, api.ErrText},
		"8/k♚6":                    {3, api.ErrText},
		"k\ufffd":                  {1, api.ErrText},
		"\xff":                     {0, api.ErrText},
		"8\x80":                    {1, api.ErrText},
		"8\x00":                    {1, api.ErrText},
		"3\xe2\x99":                {1, api.ErrText},
		"\xe2\x99":                 {0, api.ErrText},
		"８/8":                      {0, api.ErrText},
		"١":                        {0, api.ErrText},
		"ĸ":                        {0, api.ErrText},
		"\u212a":                   {0, api.ErrText}, // the sign of degrees Kelvin
		"8／8":                      {1, api.ErrText},
		"\U0001004b7":              {0, api.ErrText},
		empty + "/":                {15, api.ErrText},
		empty + "/8":               {15, api.ErrText},
		empty + " ":                {15, api.ErrText},
		empty + "\n":               {15, api.ErrText},
		empty + "1":                {15, api.ErrText},
		empty + "8":                {15, api.ErrText},
		empty + "k":                {15, api.ErrText},
		empty + "\x00":             {15, api.ErrText},
		empty + "\xff":             {15, api.ErrText},
		empty + "♔":                {15, api.ErrText},
		first + " w KQkq - 0 1":    {43, api.ErrText},
		strings.Repeat("8/", 9):    {15, api.ErrText},
		strings.Repeat("8/", 5000): {15, api.ErrText},
	} {
		if b, at, e := Read(text); b != (api.Board{}) || at != want.at || e != want.e {
			t.Errorf("Read %q: %v %v %v", text, b, at, e)
		}
	}
}

// P4.1: Read, every beginning of whole texts, and every byte behind each.
func TestReadBeginnings(t *testing.T) {
	for _, text := range []string{empty, first, mixed, long, full, "44/8/71/17/53/35/62/26", "11111111/8/8/8/8/8/8/2222"} {
		for n := range len(text) + 1 {
			hold(t, text[:n])
			for c := range 256 {
				hold(t, text[:n]+string([]byte{byte(c)}))
				hold(t, text[:n]+string([]byte{byte(c)})+text[n:])
			}
			for _, sign := range "♔♕♖♗♘♙♚♛♜♝♞♟éß１\ufffd" {
				hold(t, text[:n]+string(sign)+text[n:])
			}
		}
	}
}

// P4.1: Read, all texts of one and two bytes, and all short ones of signs that are near to right.
func TestReadShort(t *testing.T) {
	for c := range 256 {
		hold(t, string([]byte{byte(c)}))
		for d := range 256 {
			hold(t, string([]byte{byte(c), byte(d)}))
		}
	}
	short := []string{""}
	for range 5 {
		var longer []string
		for _, text := range short {
			for _, c := range "/0123478Kp" {
				longer = append(longer, text+string(c))
			}
		}
		for _, text := range longer {
			hold(t, text)
		}
		short = longer
	}
}

// P4.2: Write, boards and their shortest texts.
func TestWrite(t *testing.T) {
	for _, text := range []string{
		empty, first, mixed, full,
		"8/8/8/8/8/8/8/4K2k", "4k2K/8/8/8/8/8/8/8", "8/8/8/8/8/8/8/P7", "8/8/8/8/8/8/8/7n", "p7/8/8/8/8/8/8/8", "7P/8/8/8/8/8/8/8",
		"1k6/2k5/3k4/4k3/5k2/6k1/7k/k7", "k1k1k1k1/1k1k1k1k/k6k/kk4kk/1kk2kk1/2k3k1/3kk3/k2k2k1",
	} {
		b := pictured(text)
		if got, e := Write(b); got != text || e != api.OK {
			t.Errorf("Write %q: %q %v", text, got, e)
		}
	}
	if got, e := Write(board.First()); got != first || e != api.OK {
		t.Errorf("Write, the first board: %q %v", got, e)
	}
}

// P4.2: Write, one man on each square, and each row of men and nothing; what is written is read, and no digit follows another.
func TestWriteIsRead(t *testing.T) {
	again := func(b api.Board) {
		t.Helper()
		text, e := Write(b)
		if c, n, wrong := Read(text); e != api.OK || c != b || n != len(text) || wrong != api.OK {
			t.Errorf("Write %v: %q %v, read as %v %v %v", b, text, e, c, n, wrong)
		}
		digits := func(r rune) bool { return '0' <= r && r <= '9' }
		for _, run := range strings.FieldsFunc(text, func(r rune) bool { return !digits(r) }) {
			if len(run) > 1 {
				t.Errorf("Write %v: %q isn't the shortest", b, text)
			}
		}
	}
	for s := range 64 {
		for m := -6; m <= 6; m++ {
			again(standing(map[int]int8{s: int8(m)}))
			b := pictured(full)
			b[s] = int8(m)
			again(b)
		}
	}
	for rank := range 8 {
		for set := range 256 {
			var b api.Board
			for file := range 8 {
				if set>>file&1 == 1 {
					b[rank*8+file] = man(letters[(set+file)%12])
				}
			}
			again(b)
		}
	}
}

// P4.2: Write, boards that may be none: each number on each square.
func TestWriteWrong(t *testing.T) {
	for _, text := range []string{empty, first, full} {
		for s := range 64 {
			for n := -128; n <= 127; n++ {
				b := pictured(text)
				b[s] = int8(n)
				got, e := Write(b)
				if -6 <= n && n <= 6 {
					if got == "" || e != api.OK {
						t.Errorf("Write, %v on %v: %q %v", n, s, got, e)
					}
				} else if got != "" || e != api.ErrArg {
					t.Errorf("Write, %v on %v: %q %v", n, s, got, e)
				}
			}
		}
	}
}
