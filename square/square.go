// Package square is layer 1: see shared/doc/01-square.md.
package square

import (
	"alfil/api"
)

// edge is how many squares lie along each edge of the board.
const edge = 8

// Right tells whether s is a square.
func Right(s int) bool { return 0 <= s && s < api.Squares }

// File tells the file of s, 0 for a; -1, if s is no square.
func File(s int) int {
	if !Right(s) {
		return -1
	}
	return s % edge
}

// Rank tells the rank of s, 0 for the first; -1, if s is no square.
func Rank(s int) int {
	if !Right(s) {
		return -1
	}
	return s / edge
}

// At tells the square of a file and a rank; false, if there is none such.
func At(file, rank int) (int, bool) {
	if !onEdge(file) || !onEdge(rank) {
		return 0, false
	}
	return rank*edge + file, true
}

// Name tells the name of s; "-", if s is no square.
func Name(s int) string {
	if !Right(s) {
		return "-"
	}
	return string([]rune{'a' + rune(File(s)), '1' + rune(Rank(s))})
}

// Parse tells the square of that name; false, if it is none.
func Parse(t string) (int, bool) {
	file, rank := -1, -1
	for place, sign := range t {
		// Places count bytes: what stands behind a sign of several bytes is never at place 1, so no such text is a name.
		switch place {
		case 0:
			file = int(sign - 'a')
		case 1:
			rank = int(sign - '1')
		default:
			return 0, false
		}
	}
	return At(file, rank)
}

// Step tells where a step from s leads; false, if s is no square, or it leads off the board.
func Step(s, files, ranks int) (int, bool) {
	if !Right(s) {
		return 0, false
	}
	// A sum that wraps round lands far below 0, so that At refuses it too.
	return At(File(s)+files, Rank(s)+ranks)
}

// Far tells the distance of a and b; -1, if either is no square.
func Far(a, b int) int {
	if !Right(a) || !Right(b) {
		return -1
	}
	return max(gap(File(a), File(b)), gap(Rank(a), Rank(b)))
}

// Dark tells whether s is a dark square; what is no square isn't.
func Dark(s int) bool { return Right(s) && (File(s)+Rank(s))%2 == 0 }

// Flip tells the square of the same file on the rank that is as far from the other edge; -1, if s is no square.
func Flip(s int) int {
	if !Right(s) {
		return -1
	}
	return (edge-1-Rank(s))*edge + File(s)
}

func onEdge(n int) bool { return 0 <= n && n < edge }

func gap(a, b int) int {
	if a < b {
		return b - a
	}
	return a - b
}
