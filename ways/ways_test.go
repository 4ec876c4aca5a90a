package ways

import (
	"math"
	"testing"
)

// noWays are numbers that are none; some of them would be one if they were cut to fewer bits.
var noWays = []int{-1, -2, -16, 16, 17, 24, 256, 257, 1 << 32, 1<<32 + 1, math.MinInt, math.MaxInt}

func abs(n int) int { return max(n, -n) }

// Each way has a step of its own: straight ones, then slant ones, then a knight's.
func TestStep(t *testing.T) {
	seen := map[[2]int]int{}
	for way := range All {
		files, ranks := Step(way)
		seen[[2]int{files, ranks}]++
		straight := abs(files)+abs(ranks) == 1
		slant := abs(files) == 1 && abs(ranks) == 1
		leap := abs(files)*abs(ranks) == 2
		if straight != (way < Slants) || slant != (Slants <= way && way < Leaps) || leap != (way >= Leaps) {
			t.Error("Step", way, files, ranks)
		}
	}
	if len(seen) != All {
		t.Error("steps", seen)
	}
	for _, way := range noWays {
		if files, ranks := Step(way); files != 0 || ranks != 0 {
			t.Error("Step", way, files, ranks)
		}
	}
}

// Back goes by the same step to the other side.
func TestBack(t *testing.T) {
	for way := range All {
		files, ranks := Step(way)
		if f, r := Step(Back(way)); f != -files || r != -ranks {
			t.Error("Back", way, Back(way))
		}
	}
	for _, way := range noWays {
		if Back(way) != -1 {
			t.Error("Back", way, Back(way))
		}
	}
}

// Each kind goes by its ways, near or far; a pawn only ahead.
func TestReaches(t *testing.T) {
	for way := range All {
		files, ranks := Step(way)
		straight := files == 0 || ranks == 0
		slant := abs(files) == abs(ranks)
		for far := 1; far <= 8; far++ {
			for man, want := range map[int]bool{
				1:  far == 1 && slant && ranks == 1,
				-1: far == 1 && slant && ranks == -1,
				2:  far == 1 && !straight && !slant,
				3:  slant,
				4:  straight,
				5:  straight || slant,
				6:  far == 1 && (straight || slant),
			} {
				if Reaches(man, way, far) != want || man > 1 && Reaches(-man, way, far) != want {
					t.Error("Reaches", man, way, far)
				}
			}
		}
	}
}

// Nobody goes by no way, no man by any, and nobody no square far.
func TestReachesWrong(t *testing.T) {
	for man := -6; man <= 6; man++ {
		for _, way := range noWays {
			if Reaches(man, way, 1) || Reaches(man, way, 2) {
				t.Error("Reaches, no way", man, way)
			}
		}
		for way := range All {
			for _, far := range []int{0, -1, -2, math.MinInt} {
				if Reaches(man, way, far) {
					t.Error("Reaches, no distance", man, way, far)
				}
			}
		}
	}
	for _, man := range []int{0, 7, -7, 256, 257, 1<<32 + 4, math.MinInt, math.MaxInt} {
		for way := range All {
			if Reaches(man, way, 1) || Reaches(man, way, 2) {
				t.Error("Reaches, no man", man, way)
			}
		}
	}
}
