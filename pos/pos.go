// Package pos is layer 1: positions of a ring: see shared/doc/01-pos.md.
package pos

import (
	"math"

	"sakia/api"
)

// Check tells whether a word may be, of a ring of that room.
func Check(w api.Word, room int) bool {
	tail, mode := between(w.Head, api.MaxPos), between(api.Open, api.Halted)
	return w.Head >= 0 && tail(w.Tail) && mode(w.Mode) && Len(w) <= room
}

// Len is how much there is.
func Len(w api.Word) int {
	if empty(w) || w.Tail < w.Head {
		return 0
	}
	// Hand-made words may lie so far apart that the difference goes round.
	if n := w.Tail - w.Head; n > 0 {
		return n
	}
	return math.MaxInt
}

// Full tells whether there is no room.
func Full(w api.Word, room int) bool {
	return Len(w) >= room
}

// Place is where in the ring a position lies.
func Place(p, room int) int {
	if !lies(p, room) {
		return 0
	}
	return p % room
}

// Lap is how often the ring was gone round ahead of a position.
func Lap(p, room int) int {
	if !lies(p, room) {
		return 0
	}
	return p / room
}

// Ahead tells whether p lies at the place of q, some laps ahead of it.
func Ahead(p, q, room int) bool {
	return lies(p, room) && lies(q, room) && p < q && Place(p, room) == Place(q, room)
}

// between gives the bounds of what may be, both of them within.
func between(low, high int) func(n int) bool {
	return func(n int) bool { return low <= n && n <= high }
}

// empty tells whether a word is the one that begins where it ends.
func empty(w api.Word) bool {
	return w == api.Word{Head: w.Tail, Tail: w.Tail, Mode: w.Mode}
}

// lies tells whether p is a position, and there is a ring that it may lie in.
func lies(p, room int) bool {
	position, ring := between(0, math.MaxInt), between(1, math.MaxInt)
	return position(p) && ring(room)
}
