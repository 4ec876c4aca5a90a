package board

import (
	"math"
	"slices"
	"strings"
	"testing"

	"alfil/api"
)

// noSquares are numbers that are none; some of them would be one if they were cut to fewer bits.
var noSquares = []int{-1, -2, -8, -63, -64, -65, 64, 65, 72, 127, 128, 255, 256, 260, 1 << 16, 1 << 32, 1<<32 + 4, math.MinInt32, math.MaxInt32, math.MinInt + 1, math.MinInt, math.MaxInt - 1, math.MaxInt}

// noMen are numbers that are neither a man nor 0; some of them would be if they were cut to eight bits, or turned about.
var noMen = []int{7, -7, 8, -8, 9, -9, 12, -12, 64, 127, 128, -127, -128, -129, 250, 255, 256, 257, -255, -256, 262, 1 << 16, 1<<16 + 1, 1 << 32, 1<<32 + 1, -1 << 32, math.MinInt32, math.MaxInt32, math.MinInt + 1, math.MinInt, math.MaxInt - 1, math.MaxInt}

// noKinds are numbers that are no kind, and not 0 either: a black man's number is none.
var noKinds = append([]int{-1, -2, -3, -4, -5, -6}, noMen...)

// noSides are numbers that are no side; some of them would be one if they were cut to fewer bits.
var noSides = []int{-1, -2, 2, 3, 4, 6, -128, 128, 255, 256, 257, 1 << 16, 1 << 32, 1<<32 + 1, math.MinInt32, math.MaxInt32, math.MinInt, math.MinInt + 1, math.MaxInt - 1, math.MaxInt}

const (
	first = "rnbqkbnr pppppppp ........ ........ ........ ........ PPPPPPPP RNBQKBNR"
	empty = "........ ........ ........ ........ ........ ........ ........ ........"
	// mixed has a man of each kind and side, and differs from itself turned.
	mixed = "r.b.k... .P...ppn ..q..... p....... ...Q...N ...B.... PP....P. ....RK.."
)

// pictured reads a board from a picture: the last rank first, the a-file on the left.
func pictured(picture string) api.Board {
	var b api.Board
	for i, row := range strings.Fields(picture) {
		for file := range 8 {
			if at := strings.IndexByte("PNBRQK", row[file]); at >= 0 {
				b[(7-i)*8+file] = int8(at + 1)
			} else if at := strings.IndexByte("pnbrqk", row[file]); at >= 0 {
				b[(7-i)*8+file] = int8(-at - 1)
			}
		}
	}
	return b
}

// with is b with any number on a square, a man's or not.
func with(b api.Board, s int, number int8) api.Board {
	b[s] = number
	return b
}

// P3.1: Right and Wrong, with each number on each square.
func TestRight(t *testing.T) {
	for _, picture := range []string{empty, first, mixed} {
		b := pictured(picture)
		if !Right(b) {
			t.Error("Right", picture)
		}
		for s := range b {
			for n := -128; n <= 127; n++ {
				c := with(b, s, int8(n))
				want := n >= -6 && n <= 6
				if Right(c) != want {
					t.Error("Right", picture, s, n)
				}
				if (Wrong(c) != api.ErrArg) != want {
					t.Error("Wrong", picture, s, n, Wrong(c))
				}
			}
		}
	}
	var all api.Board
	for s := range all {
		all[s] = 7
	}
	if Right(all) || Right(Turned(all)) {
		t.Error("Right, without one man")
	}
}

// P3.1: Wrong, of boards that lack one thing, many things, or nothing.
func TestWrong(t *testing.T) {
	for _, c := range []struct {
		picture string
		want    api.Errno
	}{
		{first, api.OK},
		{mixed, api.OK},
		{"k....... ........ ........ ........ ........ ........ ........ K.......", api.OK},
		{"kK...... ........ ........ ........ ........ ........ ........ ........", api.OK},
		{"k....... PPPPPPPP pppppppp ........ ........ ........ ........ K.......", api.OK},
		{"k....... ........ ........ ........ ........ PPPPPPPP pppppppp K.......", api.OK},
		{empty, api.ErrKings},
		{"........ ........ ........ ........ ........ ........ ........ K.......", api.ErrKings},
		{"k....... ........ ........ ........ ........ ........ ........ ........", api.ErrKings},
		{"k....... ........ ........ ........ ........ ........ ........ K......K", api.ErrKings},
		{"k......k ........ ........ ........ ........ ........ ........ K.......", api.ErrKings},
		{"k......k ........ ........ ........ ........ ........ ........ K......K", api.ErrKings},
		{"........ ........ ........ ........ ........ ........ ........ K......K", api.ErrKings},
		{"k......k ........ ........ ........ ........ ........ ........ ........", api.ErrKings},
		{"qrbnpqrb ........ ........ ........ ........ ........ ........ QRBNPQRB", api.ErrKings},
		{"k..P.... ........ ........ ........ ........ ........ ........ K.......", api.ErrPawns},
		{"k..p.... ........ ........ ........ ........ ........ ........ K.......", api.ErrPawns},
		{"k....... ........ ........ ........ ........ ........ ........ K..P....", api.ErrPawns},
		{"k....... ........ ........ ........ ........ ........ ........ K..p....", api.ErrPawns},
		{"k......P ........ ........ ........ ........ ........ ........ K.......", api.ErrPawns},
		{"........ k....... ........ ........ ........ ........ ........ pK......", api.ErrPawns},
		{"rnbqkbnr pppppppp ........ ........ ........ P....... PPPPPPPP RNBQKBNR", api.ErrMen},
		{"rnbqkbnr pppppppp ........ p....... ........ ........ PPPPPPPP RNBQKBNR", api.ErrMen},
		{"rnbqkbnr pppppppp q....... ........ ........ N....... PPPPPPPP RNBQKBNR", api.ErrMen},
		// of several, the first
		{"rnbqkbnr pppppppp ........ ........ ........ PPPPPPPP PPPPPPPP PNBQKBNR", api.ErrPawns},
		{"rnbq.bnr pppppppp ........ ........ ........ PPPPPPPP PPPPPPPP RNBQKBNR", api.ErrKings},
		{"rnbq.bnr pppppppp ........ ........ ........ ........ PPPPPPPP PNBQKBNR", api.ErrKings},
		{"pppppppp pppppppp pppppppp ........ ........ PPPPPPPP PPPPPPPP PPPPPPPP", api.ErrKings},
		{"Pnbqkbnr pppppppp pppppppp ........ ........ PPPPPPPP PPPPPPPP RNBQKBNR", api.ErrPawns},
	} {
		b := pictured(c.picture)
		if e := Wrong(b); e != c.want {
			t.Error("Wrong", c.picture, e)
		}
		if e := Wrong(Turned(b)); e != c.want {
			t.Error("Wrong, turned", c.picture, e)
		}
		// a number that is no man comes ahead of all else
		if e := Wrong(with(b, 27, -7)); e != api.ErrArg {
			t.Error("Wrong, -7", c.picture, e)
		}
	}
}

// P3.1: Wrong, with a pawn on each square.
func TestWrongPawns(t *testing.T) {
	kings := pictured("........ ...k.... ........ ........ ........ ........ ...K.... ........")
	for s := range kings {
		if kings[s] != 0 {
			continue
		}
		want := api.OK
		if s < 8 || s >= 56 {
			want = api.ErrPawns
		}
		for _, pawn := range []int8{1, -1} {
			if e := Wrong(with(kings, s, pawn)); e != want {
				t.Error("Wrong", s, pawn, e)
			}
		}
		// on the same squares every other kind may stand
		for _, m := range []int8{2, 3, 4, 5, -2, -3, -4, -5} {
			if e := Wrong(with(kings, s, m)); e != api.OK {
				t.Error("Wrong", s, m, e)
			}
		}
	}
}

// P3.1: Wrong, of sixteen and seventeen men of a side, of any kinds.
func TestWrongMen(t *testing.T) {
	for _, m := range []int8{1, 2, 3, 4, 5} {
		b := pictured("k....... ........ ........ ........ ........ ........ ........ K.......")
		for i := range 15 {
			b[16+i] = m
		}
		if Wrong(b) != api.OK || Wrong(Turned(b)) != api.OK {
			t.Error("Wrong, sixteen", m, Wrong(b), Wrong(Turned(b)))
		}
		b[16+15] = m
		if Wrong(b) != api.ErrMen || Wrong(Turned(b)) != api.ErrMen {
			t.Error("Wrong, seventeen", m, Wrong(b), Wrong(Turned(b)))
		}
	}
}

// P3.1: Man, on each square, and on what is none.
func TestMan(t *testing.T) {
	b := pictured(mixed)
	for s := range b {
		if Man(b, s) != int(b[s]) {
			t.Error("Man", s, Man(b, s))
		}
	}
	for _, c := range []struct{ s, m int }{{0, 0}, {4, 4}, {5, 6}, {8, 1}, {19, 3}, {27, 5}, {31, 2}, {42, -5}, {55, -2}, {56, -4}, {58, -3}, {60, -6}, {53, -1}, {63, 0}} {
		if Man(b, c.s) != c.m {
			t.Error("Man", c, Man(b, c.s))
		}
	}
	full := with(with(b, 0, 6), 63, -6)
	for _, s := range noSquares {
		if Man(full, s) != 0 {
			t.Error("Man", s, Man(full, s))
		}
	}
}

// P3.1: Put, of each man, and of nothing, on each square; the board that was handed in stays.
func TestPut(t *testing.T) {
	b := pictured(mixed)
	for s := range b {
		for m := -6; m <= 6; m++ {
			c, e := Put(b, s, m)
			if e != api.OK || c != with(b, s, int8(m)) {
				t.Error("Put", s, m, e, c)
			}
			if b != pictured(mixed) {
				t.Fatal("Put changed what it was given", s, m)
			}
		}
	}
}

// P3.1: Put, onto a board that may be none: nothing is asked of it.
func TestPutOntoNone(t *testing.T) {
	b := with(with(pictured(empty), 3, 9), 4, -128)
	if c, e := Put(b, 3, -6); e != api.OK || c != with(b, 3, -6) {
		t.Error("Put", e, c)
	}
	if c, e := Put(b, 5, 0); e != api.OK || c != b {
		t.Error("Put", e, c)
	}
}

// P3.1: Put, of what may not be: an error, and the zero board beside it.
func TestPutWrong(t *testing.T) {
	b := pictured(mixed)
	check := func(s, m int) {
		if c, e := Put(b, s, m); e != api.ErrArg || c != (api.Board{}) {
			t.Error("Put", s, m, e, c)
		}
	}
	for _, s := range noSquares {
		for m := -6; m <= 6; m++ {
			check(s, m)
		}
		for _, m := range noMen {
			check(s, m)
		}
	}
	for s := range b {
		for _, m := range noMen {
			check(s, m)
		}
	}
}

// P3.2: Where, told by squares.
func TestWhere(t *testing.T) {
	b := pictured(first)
	for _, c := range []struct {
		m    int
		want []int
	}{
		{1, []int{8, 9, 10, 11, 12, 13, 14, 15}}, {2, []int{1, 6}}, {3, []int{2, 5}}, {4, []int{0, 7}}, {5, []int{3}}, {6, []int{4}},
		{-1, []int{48, 49, 50, 51, 52, 53, 54, 55}}, {-2, []int{57, 62}}, {-3, []int{58, 61}}, {-4, []int{56, 63}}, {-5, []int{59}}, {-6, []int{60}},
		{0, []int{16, 17, 18, 19, 20, 21, 22, 23, 24, 25, 26, 27, 28, 29, 30, 31, 32, 33, 34, 35, 36, 37, 38, 39, 40, 41, 42, 43, 44, 45, 46, 47}},
	} {
		if l := Where(b, c.m); !slices.Equal(l, c.want) {
			t.Error("Where", c.m, l)
		}
	}
	if l := Where(pictured(mixed), 1); !slices.Equal(l, []int{8, 9, 14, 49}) {
		t.Error("Where", l)
	}
	for m := -6; m <= 6; m++ {
		if l := Where(pictured(empty), m); m != 0 && len(l) != 0 || m == 0 && len(l) != 64 {
			t.Error("Where, empty", m, l)
		}
	}
}

// P3.2: Where, of numbers that are no man: none on a board that may be one, else where the number is.
func TestWhereNoMan(t *testing.T) {
	for _, m := range noMen {
		for _, picture := range []string{empty, first, mixed} {
			if l := Where(pictured(picture), m); len(l) != 0 {
				t.Error("Where", picture, m, l)
			}
		}
	}
	b := with(with(with(pictured(first), 20, 9), 63, 9), 0, -128)
	if l := Where(b, 9); !slices.Equal(l, []int{20, 63}) {
		t.Error("Where 9", l)
	}
	if l := Where(b, -128); !slices.Equal(l, []int{0}) {
		t.Error("Where -128", l)
	}
	for _, m := range []int{128, -9, 265, -247} {
		if l := Where(b, m); len(l) != 0 {
			t.Error("Where", m, l)
		}
	}
}

// P3.2: what Where answers is new each time, spare room included.
func TestWhereNew(t *testing.T) {
	b := pictured(first)
	one := Where(b, 2)
	one = one[:cap(one)]
	for i := range one {
		one[i] = -5
	}
	if two := Where(b, 2); !slices.Equal(two, []int{1, 6}) {
		t.Error("Where", two)
	}
}

// P3.2: King, of one on each square, of several, and of none.
func TestKing(t *testing.T) {
	for s := range 64 {
		white, black := with(api.Board{}, s, 6), with(api.Board{}, s, -6)
		if King(white, 0) != s || King(white, 1) != -1 || King(black, 1) != s || King(black, 0) != -1 {
			t.Error("King", s)
		}
	}
	for _, c := range []struct {
		picture      string
		white, black int
	}{
		{first, 4, 60},
		{mixed, 5, 60},
		{empty, -1, -1},
		{"k......k ........ ........ ........ ........ ........ ........ K......K", 0, 56},
		{"K......k ........ ...k.... ........ ....K... ........ ........ ........", 28, 43},
		{"rnbq.bnr pppppppp ........ ........ ........ ........ PPPPPPPP RNBQ.BNR", -1, -1},
	} {
		b := pictured(c.picture)
		if King(b, 0) != c.white || King(b, 1) != c.black {
			t.Error("King", c.picture, King(b, 0), King(b, 1))
		}
	}
}

// P3.2: King, of what is no side; an empty square, and a number that is no man, are no king.
func TestKingWrong(t *testing.T) {
	for _, side := range noSides {
		for _, picture := range []string{empty, first, mixed} {
			if s := King(pictured(picture), side); s != -1 {
				t.Error("King", picture, side, s)
			}
		}
	}
	var b api.Board
	for s := range b {
		b[s] = []int8{7, -7, 12, -12, 127, -128}[s%6]
	}
	if King(b, 0) != -1 || King(b, 1) != -1 {
		t.Error("King", King(b, 0), King(b, 1))
	}
}

// P3.2: Many, of each kind and side, and of any kind.
func TestMany(t *testing.T) {
	for _, c := range []struct {
		picture string
		want    [2][7]int // by side, by kind
	}{
		{first, [2][7]int{{16, 8, 2, 2, 2, 1, 1}, {16, 8, 2, 2, 2, 1, 1}}},
		{empty, [2][7]int{}},
		{mixed, [2][7]int{{9, 4, 1, 1, 1, 1, 1}, {8, 3, 1, 1, 1, 1, 1}}},
		{"........ ........ ........ ........ ........ NNNNNNNN NNNNNNNN NNNNNNNN", [2][7]int{{24, 0, 24, 0, 0, 0, 0}, {}}},
		{"kk...... ........ ........ ........ ........ ........ ........ ........", [2][7]int{{}, {2, 0, 0, 0, 0, 0, 2}}},
	} {
		for side, kinds := range c.want {
			for kind, want := range kinds {
				if n := Many(pictured(c.picture), kind, side); n != want {
					t.Error("Many", c.picture, kind, side, n)
				}
			}
		}
	}
}

// P3.2: Many, of kinds and sides that there aren't, even where the board is all but full, or empty.
func TestManyWrong(t *testing.T) {
	odd := pictured(first)
	for s := 16; s < 48; s++ {
		odd[s] = []int8{7, -7, 127, -128}[s%4]
	}
	for _, b := range []api.Board{pictured(empty), pictured(first), pictured(mixed), odd} {
		for _, side := range noSides {
			for kind := range 7 {
				if n := Many(b, kind, side); n != 0 {
					t.Error("Many", kind, side, n)
				}
			}
			for _, kind := range noKinds {
				if n := Many(b, kind, side); n != 0 {
					t.Error("Many", kind, side, n)
				}
			}
		}
		for _, kind := range noKinds {
			if Many(b, kind, 0) != 0 || Many(b, kind, 1) != 0 {
				t.Error("Many", kind, Many(b, kind, 0), Many(b, kind, 1))
			}
		}
	}
	// numbers that are no men aren't counted among those of any kind
	if Many(odd, 0, 0) != 16 || Many(odd, 0, 1) != 16 {
		t.Error("Many of any kind", Many(odd, 0, 0), Many(odd, 0, 1))
	}
}

// P3.2: Turned, told by pictures.
func TestTurned(t *testing.T) {
	for _, c := range []struct{ from, to string }{
		{first, first},
		{empty, empty},
		{mixed, "....rk.. pp....p. ...b.... ...q...n P....... ..Q..... .p...PPN R.B.K..."},
		{"K....... ........ ........ ........ ........ ........ ........ .......q", ".......Q ........ ........ ........ ........ ........ ........ k......."},
	} {
		b := pictured(c.from)
		if Turned(b) != pictured(c.to) {
			t.Error("Turned", c.from, Turned(b))
		}
		if b != pictured(c.from) {
			t.Error("Turned changed what it was given", c.from)
		}
		if Turned(Turned(b)) != b {
			t.Error("Turned twice", c.from)
		}
	}
}

// P3.2: Turned, with each number on each square: -128 has no other sign.
func TestTurnedNumbers(t *testing.T) {
	b := pictured(mixed)
	for s := range b {
		for n := -128; n <= 127; n++ {
			want := -n
			if n == -128 {
				want = -128
			}
			flipped := (7-s/8)*8 + s%8
			if c := Turned(with(b, s, int8(n))); c != with(Turned(b), flipped, int8(want)) {
				t.Error("Turned", s, n, c)
			}
		}
	}
}

// P3.2: First, held against a picture, and new each time.
func TestFirst(t *testing.T) {
	b := First()
	if b != pictured(first) {
		t.Error("First", b)
	}
	b[0] = 0
	if First() != pictured(first) {
		t.Error("First, after a change of what it answered", First())
	}
	if King(First(), 1) != 60 || Wrong(First()) != api.OK {
		t.Error("First", King(First(), 1), Wrong(First()))
	}
}
