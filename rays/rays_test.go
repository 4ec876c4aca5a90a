package rays

import (
	"math"
	"slices"
	"strings"
	"testing"

	"alfil/api"
)

// noSquares are numbers that are none; some of them would be one if they were cut to fewer bits.
var noSquares = []int{-1, -2, -8, -63, -64, -65, 64, 65, 72, 127, 128, 255, 256, 1 << 16, 1 << 32, 1<<32 + 28, math.MinInt32, math.MaxInt32, math.MinInt + 1, math.MinInt, math.MaxInt - 1, math.MaxInt}

// noMen are numbers that are none; some of them would be one if they were cut to fewer bits, or turned about.
var noMen = []int{0, 7, -7, 8, -8, 13, -13, 64, 127, 128, -128, 250, 255, 256, 257, 260, -252, 1 << 16, 1<<16 + 5, 1<<32 + 4, -1<<32 - 4, math.MinInt32, math.MaxInt32, math.MinInt + 1, math.MinInt, math.MinInt + 5, math.MaxInt - 1, math.MaxInt}

// allMen are those of both sides.
var allMen = []int{1, 2, 3, 4, 5, 6, -1, -2, -3, -4, -5, -6}

// The steps of the chapter, as files and ranks, in its order.
var (
	straight = [][2]int{{0, 1}, {1, 0}, {0, -1}, {-1, 0}}
	slant    = [][2]int{{1, 1}, {1, -1}, {-1, -1}, {-1, 1}}
	leap     = [][2]int{{1, 2}, {2, 1}, {2, -1}, {1, -2}, {-1, -2}, {-2, -1}, {-2, 1}, {-1, 2}}
)

// place is the number of a square's name, found by its signs' places.
func place(name string) int {
	return strings.IndexByte("12345678", name[1])*8 + strings.IndexByte("abcdefgh", name[0])
}

// places are the squares of names between blanks.
func places(names string) []int {
	var out []int
	for _, name := range strings.Fields(names) {
		out = append(out, place(name))
	}
	return out
}

// lists are the squares of rays, each of which is names between blanks, with a comma between any two.
func lists(names string) [][]int {
	var out [][]int
	for _, part := range strings.Split(names, ",") {
		if l := places(part); len(l) > 0 {
			out = append(out, l)
		}
	}
	return out
}

// squares are those of each ray.
func squares(all []api.Ray) [][]int {
	var out [][]int
	for _, r := range all {
		out = append(out, r.Squares)
	}
	return out
}

func same(a, b [][]int) bool { return slices.EqualFunc(a, b, slices.Equal[[]int]) }

// walked is at most so many squares from s by a step, by multiples of it instead of one step behind the other.
func walked(s int, by [2]int, most int) []int {
	var out []int
	for n := 1; n <= most; n++ {
		file, rank := s%8+n*by[0], s/8+n*by[1]
		if file < 0 || file > 7 || rank < 0 || rank > 7 {
			break
		}
		out = append(out, rank*8+file)
	}
	return out
}

// expected is the rays of a man on a square, as the chapter has them.
func expected(man, s int) [][]int {
	var by [][2]int
	most := 1
	switch man {
	case 1:
		by = [][2]int{{1, 1}, {-1, 1}}
	case -1:
		by = [][2]int{{1, -1}, {-1, -1}}
	case 2, -2:
		by = leap
	case 3, -3:
		by, most = slant, 7
	case 4, -4:
		by, most = straight, 7
	case 5, -5:
		by, most = slices.Concat(straight, slant), 7
	case 6, -6:
		by = slices.Concat(straight, slant)
	}
	var out [][]int
	for _, b := range by {
		if l := walked(s, b, most); len(l) > 0 {
			out = append(out, l)
		}
	}
	return out
}

// P6.1: Ray, told by names: straight, slant and other steps, from the midst, an edge and a corner.
func TestRayNamed(t *testing.T) {
	for _, c := range []struct {
		from         string
		files, ranks int
		want         string
	}{
		{"d4", 0, 1, "d5 d6 d7 d8"}, {"d4", 1, 0, "e4 f4 g4 h4"}, {"d4", 0, -1, "d3 d2 d1"}, {"d4", -1, 0, "c4 b4 a4"},
		{"d4", 1, 1, "e5 f6 g7 h8"}, {"d4", 1, -1, "e3 f2 g1"}, {"d4", -1, -1, "c3 b2 a1"}, {"d4", -1, 1, "c5 b6 a7"},
		{"a1", 0, 1, "a2 a3 a4 a5 a6 a7 a8"}, {"a1", 1, 0, "b1 c1 d1 e1 f1 g1 h1"}, {"a1", 1, 1, "b2 c3 d4 e5 f6 g7 h8"},
		{"h8", -1, -1, "g7 f6 e5 d4 c3 b2 a1"}, {"a8", 1, -1, "b7 c6 d5 e4 f3 g2 h1"}, {"h1", -1, 1, "g2 f3 e4 d5 c6 b7 a8"},
		{"e1", 1, 1, "f2 g3 h4"}, {"e8", 0, -1, "e7 e6 e5 e4 e3 e2 e1"}, {"h5", -1, 0, "g5 f5 e5 d5 c5 b5 a5"}, {"a5", 1, 1, "b6 c7 d8"},
		{"a1", 1, 2, "b3 c5 d7"}, {"a1", 2, 1, "c2 e3 g4"}, {"h8", -3, -1, "e7 b6"}, {"a1", 7, 7, "h8"}, {"h1", -7, 7, "a8"},
		{"a4", 7, 0, "h4"}, {"b1", 0, 3, "b4 b7"}, {"a1", 0, 2, "a3 a5 a7"}, {"a1", 2, 2, "c3 e5 g7"}, {"d4", 4, 4, "h8"}, {"d4", -3, 4, "a8"},
	} {
		if l := Ray(place(c.from), c.files, c.ranks); !slices.Equal(l, places(c.want)) {
			t.Error("Ray", c, l)
		}
	}
}

// P6.1: Ray, from each square by each step that stays within reach of the board, and just beyond; by the step (0, 0) there is none.
func TestRayNear(t *testing.T) {
	for s := range 64 {
		for files := -17; files <= 17; files++ {
			for ranks := -17; ranks <= 17; ranks++ {
				var want []int
				if files != 0 || ranks != 0 {
					want = walked(s, [2]int{files, ranks}, 7)
				}
				if l := Ray(s, files, ranks); !slices.Equal(l, want) {
					t.Error("Ray", s, files, ranks, l)
				}
			}
		}
	}
}

// P6.1: Ray, from what is no square, by the step (0, 0), by steps that lead off the board at once, and by such as are as far as numbers go.
func TestRayWrong(t *testing.T) {
	check := func(s, files, ranks int) {
		t.Helper()
		if l := Ray(s, files, ranks); len(l) != 0 {
			t.Error("Ray", s, files, ranks, l)
		}
	}
	for _, s := range noSquares {
		for _, n := range []int{-64, -8, -1, 0, 1, 8, 64, -s, math.MinInt, math.MaxInt} {
			check(s, n, 0)
			check(s, 0, n)
			check(s, n, n)
			check(s, 1, n)
			check(s, n, 1)
		}
	}
	ends := []int{math.MinInt, math.MinInt + 1, math.MinInt + 7, math.MinInt + 8, math.MinInt/2 - 1, math.MinInt / 2, math.MaxInt / 2, math.MaxInt/2 + 1, math.MaxInt - 8, math.MaxInt - 7, math.MaxInt - 1, math.MaxInt, math.MinInt32, math.MaxInt32, 1 << 32, -1 << 32, 1<<32 + 1, 1 << 61, -1 << 61}
	for s := range 64 {
		check(s, 0, 0)
		check(s, 8, 0)
		check(s, 0, -8)
		for _, n := range ends {
			for _, other := range append([]int{-1, 0, 1}, ends...) {
				check(s, n, other)
				check(s, other, n)
			}
		}
	}
	check(place("a1"), -1, 0)
	check(place("a1"), 1, -1)
	check(place("h8"), 0, 1)
	check(place("h8"), -1, 1)
	check(place("h4"), 1, 0)
	check(place("a4"), -1, 1)
	check(place("b2"), -2, 1)
}

// P6.1: Of, told by names: each kind in the midst, at an edge and in a corner, of either side; rays without squares are left out.
func TestOfNamed(t *testing.T) {
	x := Make()
	for _, c := range []struct {
		men  []int
		from string
		want string
	}{
		{[]int{4, -4}, "d4", "d5 d6 d7 d8, e4 f4 g4 h4, d3 d2 d1, c4 b4 a4"},
		{[]int{4, -4}, "a1", "a2 a3 a4 a5 a6 a7 a8, b1 c1 d1 e1 f1 g1 h1"},
		{[]int{4, -4}, "h8", "h7 h6 h5 h4 h3 h2 h1, g8 f8 e8 d8 c8 b8 a8"},
		{[]int{4, -4}, "e1", "e2 e3 e4 e5 e6 e7 e8, f1 g1 h1, d1 c1 b1 a1"},
		{[]int{4, -4}, "a7", "a8, b7 c7 d7 e7 f7 g7 h7, a6 a5 a4 a3 a2 a1"},
		{[]int{3, -3}, "d4", "e5 f6 g7 h8, e3 f2 g1, c3 b2 a1, c5 b6 a7"},
		{[]int{3, -3}, "a1", "b2 c3 d4 e5 f6 g7 h8"},
		{[]int{3, -3}, "h1", "g2 f3 e4 d5 c6 b7 a8"},
		{[]int{3, -3}, "h5", "g4 f3 e2 d1, g6 f7 e8"},
		{[]int{3, -3}, "c8", "d7 e6 f5 g4 h3, b7 a6"},
		{[]int{5, -5}, "d4", "d5 d6 d7 d8, e4 f4 g4 h4, d3 d2 d1, c4 b4 a4, e5 f6 g7 h8, e3 f2 g1, c3 b2 a1, c5 b6 a7"},
		{[]int{5, -5}, "a8", "b8 c8 d8 e8 f8 g8 h8, a7 a6 a5 a4 a3 a2 a1, b7 c6 d5 e4 f3 g2 h1"},
		{[]int{5, -5}, "g1", "g2 g3 g4 g5 g6 g7 g8, h1, f1 e1 d1 c1 b1 a1, h2, f2 e3 d4 c5 b6 a7"},
		{[]int{6, -6}, "d4", "d5, e4, d3, c4, e5, e3, c3, c5"},
		{[]int{6, -6}, "a1", "a2, b1, b2"},
		{[]int{6, -6}, "h8", "h7, g8, g7"},
		{[]int{6, -6}, "a4", "a5, b4, a3, b5, b3"},
		{[]int{6, -6}, "e8", "f8, e7, d8, f7, d7"},
		{[]int{2, -2}, "d4", "e6, f5, f3, e2, c2, b3, b5, c6"},
		{[]int{2, -2}, "a1", "b3, c2"},
		{[]int{2, -2}, "h8", "g6, f7"},
		{[]int{2, -2}, "g1", "h3, e2, f3"},
		{[]int{2, -2}, "a5", "b7, c6, c4, b3"},
		{[]int{1}, "e4", "f5, d5"}, {[]int{1}, "a2", "b3"}, {[]int{1}, "h2", "g3"}, {[]int{1}, "e1", "f2, d2"}, {[]int{1}, "a7", "b8"},
		{[]int{1}, "e7", "f8, d8"}, {[]int{1}, "e8", ""}, {[]int{1}, "a8", ""}, {[]int{1}, "h8", ""}, {[]int{1}, "h1", "g2"},
		{[]int{-1}, "e4", "f3, d3"}, {[]int{-1}, "a7", "b6"}, {[]int{-1}, "h7", "g6"}, {[]int{-1}, "e8", "f7, d7"}, {[]int{-1}, "h2", "g1"},
		{[]int{-1}, "e2", "f1, d1"}, {[]int{-1}, "e1", ""}, {[]int{-1}, "a1", ""}, {[]int{-1}, "h1", ""}, {[]int{-1}, "a8", "b7"},
	} {
		for _, man := range c.men {
			if l := x.Of(man, place(c.from)); !same(squares(l), lists(c.want)) {
				t.Error("Of", man, c.from, l)
			}
		}
	}
}

// P6.1: Of, of each man on each square.
func TestOfEach(t *testing.T) {
	x := Make()
	for _, man := range allMen {
		for s := range 64 {
			if l := x.Of(man, s); !same(squares(l), expected(man, s)) {
				t.Error("Of", man, s, l)
			}
		}
	}
}

// P6.1: Of, of what is no man, and of what is no square.
func TestOfWrong(t *testing.T) {
	x := Make()
	for _, man := range noMen {
		for s := range 64 {
			if l := x.Of(man, s); len(l) != 0 {
				t.Error("Of", man, s, l)
			}
		}
	}
	for _, s := range noSquares {
		for _, man := range append(allMen, noMen...) {
			if l := x.Of(man, s); len(l) != 0 {
				t.Error("Of", man, s, l)
			}
		}
	}
}

// P6.2: Line, told by names: along ranks, files and slants, both ways; of two squares side by side, and of one square twice; of such as stand on no ray.
func TestLineNamed(t *testing.T) {
	x := Make()
	for _, c := range [][3]string{
		{"a1", "h8", "b2 c3 d4 e5 f6 g7"}, {"h8", "a1", "g7 f6 e5 d4 c3 b2"}, {"a8", "h1", "b7 c6 d5 e4 f3 g2"}, {"h1", "a8", "g2 f3 e4 d5 c6 b7"},
		{"a1", "h1", "b1 c1 d1 e1 f1 g1"}, {"h1", "a1", "g1 f1 e1 d1 c1 b1"}, {"a1", "a8", "a2 a3 a4 a5 a6 a7"}, {"a8", "a1", "a7 a6 a5 a4 a3 a2"},
		{"e4", "e1", "e3 e2"}, {"e1", "e4", "e2 e3"}, {"b5", "f5", "c5 d5 e5"}, {"f5", "b5", "e5 d5 c5"},
		{"c6", "f3", "d5 e4"}, {"f3", "c6", "e4 d5"}, {"b2", "d4", "c3"}, {"d4", "b2", "c3"},
		{"d4", "d5", ""}, {"d4", "e4", ""}, {"d4", "d3", ""}, {"d4", "c4", ""}, {"d4", "e5", ""}, {"d4", "e3", ""}, {"d4", "c3", ""}, {"d4", "c5", ""},
		{"d4", "d4", ""}, {"a1", "a1", ""}, {"h8", "h8", ""},
		{"d4", "e6", ""}, {"d4", "g6", ""}, {"a1", "h7", ""}, {"a1", "b8", ""}, {"e4", "d2", ""}, {"h1", "a2", ""}, {"h4", "a5", ""}, {"a1", "c5", ""}, {"a1", "g4", ""},
	} {
		if l := x.Line(place(c[0]), place(c[1])); !slices.Equal(l, places(c[2])) {
			t.Error("Line", c, l)
		}
	}
}

// P6.2: Line, of each two squares; and from the other one on it is the same, turned about.
func TestLineEach(t *testing.T) {
	x := Make()
	for a := range 64 {
		for b := range 64 {
			var want []int
			for _, by := range slices.Concat(straight, slant) {
				if l := walked(a, by, 7); slices.Contains(l, b) {
					want = l[:slices.Index(l, b)]
				}
			}
			l := x.Line(a, b)
			if !slices.Equal(l, want) {
				t.Error("Line", a, b, l)
			}
			back := x.Line(b, a)
			slices.Reverse(back)
			if !slices.Equal(l, back) {
				t.Error("Line back", a, b, l, back)
			}
		}
	}
}

// P6.2: Line, of what is no square.
func TestLineWrong(t *testing.T) {
	x := Make()
	for _, wrong := range noSquares {
		for s := range 64 {
			if l := x.Line(wrong, s); len(l) != 0 {
				t.Error("Line", wrong, s, l)
			}
			if l := x.Line(s, wrong); len(l) != 0 {
				t.Error("Line", s, wrong, l)
			}
		}
		for _, other := range noSquares {
			if l := x.Line(wrong, other); len(l) != 0 {
				t.Error("Line", wrong, other, l)
			}
		}
	}
}

// P6.3: who is on a ray has that one on its ray of the same kind; a pawn has it on the other side's.
func TestBothWays(t *testing.T) {
	x := Make()
	on := func(man, a, b int) bool {
		return slices.ContainsFunc(x.Of(man, a), func(r api.Ray) bool { return slices.Contains(r.Squares, b) })
	}
	for _, man := range allMen {
		other := man
		if man == 1 || man == -1 {
			other = -man
		}
		for a := range 64 {
			for b := range 64 {
				if on(man, a, b) != on(other, b, a) {
					t.Error("on", man, a, b)
				}
			}
		}
	}
}

// P6.3: of a nil Table there is nothing, whatever is asked.
func TestNilTable(t *testing.T) {
	var x *Table
	for _, s := range append([]int{0, 1, 28, 63}, noSquares...) {
		for _, man := range append(allMen, noMen...) {
			if l := x.Of(man, s); len(l) != 0 {
				t.Error("Of", man, s, l)
			}
		}
		for _, to := range append([]int{0, 1, 28, 63}, noSquares...) {
			if l := x.Line(s, to); len(l) != 0 {
				t.Error("Line", s, to, l)
			}
		}
	}
}

// spoil writes into a list and into the room behind it.
func spoil(l []int) {
	l = l[:cap(l)]
	for i := range l {
		l[i] = -99
	}
}

// R4: rays that are written into change neither one another, nor what is answered next.
func TestOfAnswersAreNew(t *testing.T) {
	x, y := Make(), Make()
	for _, man := range allMen {
		for s := range 64 {
			kept := x.Of(man, s)
			l := x.Of(man, s)
			for i := range l {
				spoil(l[i].Squares)
				for j := i + 1; j < len(l); j++ {
					if want := expected(man, s)[j]; !slices.Equal(l[j].Squares, want) {
						t.Error("Of, a ray behind", man, s, i, j, l[j])
					}
				}
			}
			l = l[:cap(l)]
			clear(l)
			if want := expected(man, s); !same(squares(kept), want) || !same(squares(x.Of(man, s)), want) || !same(squares(y.Of(man, s)), want) {
				t.Error("Of again", man, s, kept, x.Of(man, s), y.Of(man, s))
			}
		}
	}
	for _, man := range allMen {
		for s := range 64 {
			if !same(squares(x.Of(man, s)), expected(man, s)) {
				t.Error("Of at last", man, s, x.Of(man, s))
			}
		}
	}
}

// R4: lines, and rays by a step, that are written into change nothing that is answered next.
func TestListsAreNew(t *testing.T) {
	x := Make()
	for a := range 64 {
		for b := range 64 {
			want := slices.Clone(x.Line(a, b))
			kept := x.Line(a, b)
			spoil(x.Line(a, b))
			if again := x.Line(a, b); !slices.Equal(again, want) || !slices.Equal(kept, want) {
				t.Error("Line again", a, b, again, kept)
			}
		}
		for _, by := range slices.Concat(straight, slant, leap) {
			kept := Ray(a, by[0], by[1])
			spoil(Ray(a, by[0], by[1]))
			if again, want := Ray(a, by[0], by[1]), walked(a, by, 7); !slices.Equal(again, want) || !slices.Equal(kept, want) {
				t.Error("Ray again", a, by, again, kept)
			}
		}
		if !same(squares(x.Of(5, a)), expected(5, a)) {
			t.Error("Of", a, x.Of(5, a))
		}
	}
}

// R4: what is put behind a list that was answered is in nobody else's.
func TestPutBehind(t *testing.T) {
	x := Make()
	for _, man := range allMen {
		for s := range 64 {
			l := x.Of(man, s)
			for i := range l {
				_ = append(l[i].Squares, -99)
			}
			_ = append(l, api.Ray{Squares: []int{-99}})
			if want := expected(man, s); !same(squares(l), want) || !same(squares(x.Of(man, s)), want) {
				t.Error("Of", man, s, l, x.Of(man, s))
			}
		}
	}
}

// The table's lists have no room behind them, so that none can run into the next one in their common memory.
func TestNoRoomBehind(t *testing.T) {
	x := Make()
	for way := range x.lists {
		for s, l := range x.lists[way] {
			if cap(l) != len(l) {
				t.Error("room", way, s, len(l), cap(l))
			}
		}
	}
}

// R5: one table answers as another does, whatever was asked of either.
func TestTablesAreAlike(t *testing.T) {
	x := Make()
	x.Of(5, 28)
	x.Line(0, 63)
	y := Make()
	if x == y {
		t.Error("one table twice")
	}
	if x == nil || y == nil {
		t.Fatal("no table")
	}
	for way := range x.lists {
		if !same(x.lists[way][:], y.lists[way][:]) {
			t.Error("lists", way)
		}
	}
}
