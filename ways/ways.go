// Package ways tells by which steps men go over the board, and how far. Layers share it that go along rays: a table of all rays costs too much to be made for one question.
package ways

import (
	"alfil/api"
	"alfil/men"
)

// The ways are numbered in the order in which rays are told: the straight ones from 0 on, then the slant ones, then a knight's.
const (
	Slants = 4  // the first slant one
	Leaps  = 8  // a knight's first one; a queen's are those ahead of it
	All    = 16 // how many there are
)

// step is how many files to the right and ranks up a way goes at a time.
type step struct{ files, ranks int }

// steps are those of the ways. To the right comes ahead of to the left among the slant ones of either direction, as a pawn's rays need it.
var steps = [All]step{
	{0, 1}, {1, 0}, {0, -1}, {-1, 0},
	{1, 1}, {1, -1}, {-1, -1}, {-1, 1},
	{1, 2}, {2, 1}, {2, -1}, {1, -2}, {-1, -2}, {-2, -1}, {-2, 1}, {-1, 2},
}

// Step tells how many files to the right and ranks up a way goes at a time; 0 and 0, if there is no such way.
func Step(way int) (files, ranks int) {
	if !right(way) {
		return 0, 0
	}
	return steps[way].files, steps[way].ranks
}

// Back tells the way on which one goes back; -1, if there is no such way.
func Back(way int) int {
	switch {
	case !right(way):
		return -1
	case way < Slants:
		return (way + 2) % Slants
	case way < Leaps:
		return Slants + (way+2)%Slants
	}
	return Leaps + (way+4)%Leaps
}

// Reaches tells whether a man has a ray of that way (of a pawn one on which it captures) that is so many squares long, if the board doesn't end ahead of that.
func Reaches(man, way, far int) bool {
	if !right(way) || far < 1 {
		return false
	}
	near, slant := far == 1, Slants <= way && way < Leaps
	switch men.Kind(man) {
	case api.Pawn:
		return near && slant && steps[way].ranks == ahead(men.Side(man))
	case api.Knight:
		return near && way >= Leaps
	case api.Bishop:
		return slant
	case api.Rook:
		return way < Slants
	case api.Queen:
		return way < Leaps
	case api.King:
		return near && way < Leaps
	}
	return false
}

func right(way int) bool { return 0 <= way && way < All }

// ahead tells how many ranks up a pawn of a side goes.
func ahead(side int) int {
	if side == api.White {
		return 1
	}
	return -1
}
