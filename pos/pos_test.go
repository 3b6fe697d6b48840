package pos_test

import (
	"math/big"
	"sync"
	"testing"

	"sakia/api"
	"sakia/pos"
)

const (
	most  = 1<<63 - 1
	least = -1 << 63
)

// numbers has the edges that the document names, what lies beside them, and numbers that lie far outside.
func numbers() []int {
	l := []int{}
	for _, n := range []int{0, 4, 64, 1 << 39, api.MaxPos, 2 * api.MaxPos} {
		l = append(l, n-1, n, n+1, -n)
	}
	return append(l, 2, most, most-1, least, least+1)
}

func bigger(n int) *big.Int { return big.NewInt(int64(n)) }

// far is how far b is above a, without going round; cut down to what an int holds.
func far(a, b int) int {
	d := new(big.Int).Sub(bigger(b), bigger(a))
	switch {
	case d.Sign() < 0:
		return 0
	case d.Cmp(bigger(most)) > 0:
		return most
	}
	return int(d.Int64())
}

// P1.1: which words may be.
func TestCheck(t *testing.T) {
	for _, c := range []struct {
		name string
		w    api.Word
		room int
		want bool
	}{
		{"new", api.Word{}, 4, true},
		{"some", api.Word{Head: 5, Tail: 7}, 4, true},
		{"full", api.Word{Head: 5, Tail: 9}, 4, true},
		{"more than room", api.Word{Head: 5, Tail: 10}, 4, false},
		{"draining", api.Word{Head: 5, Tail: 7, Mode: api.Draining}, 4, true},
		{"halted", api.Word{Head: 5, Tail: 7, Mode: api.Halted}, 4, true},
		{"mode above", api.Word{Mode: api.Halted + 1}, 4, false},
		{"mode below", api.Word{Mode: api.Open - 1}, 4, false},
		{"mode far above", api.Word{Mode: most}, 4, false},
		{"mode far below", api.Word{Mode: least}, 4, false},
		{"head below 0", api.Word{Head: -1, Tail: 0}, 4, false},
		{"both below 0", api.Word{Head: -1, Tail: -1}, 4, false},
		{"tail below head", api.Word{Head: 5, Tail: 4}, 4, false},
		{"tail at the end", api.Word{Head: api.MaxPos - 4, Tail: api.MaxPos}, 4, true},
		{"both at the end", api.Word{Head: api.MaxPos, Tail: api.MaxPos}, 4, true},
		{"tail beyond the end", api.Word{Head: api.MaxPos - 3, Tail: api.MaxPos + 1}, 4, false},
		{"both beyond the end", api.Word{Head: api.MaxPos + 1, Tail: api.MaxPos + 1}, 4, false},
		{"great room", api.Word{Tail: api.MaxPos}, most, true},
		{"as great a room", api.Word{Tail: api.MaxPos}, api.MaxPos, true},
		{"too small a room", api.Word{Tail: api.MaxPos}, api.MaxPos - 1, false},
		{"no room, nothing there", api.Word{Head: 3, Tail: 3}, 0, true},
		{"no room, something there", api.Word{Head: 3, Tail: 4}, 0, false},
		{"room below 0", api.Word{Head: 3, Tail: 3}, -1, false},
		{"room far below 0", api.Word{}, least, false},
		{"as far apart as may be", api.Word{Head: least, Tail: most}, most, false},
		{"as far apart the other way", api.Word{Head: most, Tail: least}, 4, false},
	} {
		if got := pos.Check(c.w, c.room); got != c.want {
			t.Errorf("%s: Check(%v, %d) = %v", c.name, c.w, c.room, got)
		}
	}
}

// P1.1: how much there is, and whether there is no room, of words that may not be too.
func TestLenAndFull(t *testing.T) {
	for _, c := range []struct {
		name string
		w    api.Word
		room int
		want int
		full bool
	}{
		{"new", api.Word{}, 4, 0, false},
		{"one", api.Word{Head: 5, Tail: 6}, 4, 1, false},
		{"one less than room", api.Word{Head: 5, Tail: 8}, 4, 3, false},
		{"room", api.Word{Head: 5, Tail: 9}, 4, 4, true},
		{"more than room", api.Word{Head: 5, Tail: 10}, 4, 5, true},
		{"tail below head", api.Word{Head: 5, Tail: 4}, 4, 0, false},
		{"tail far below head", api.Word{Head: most, Tail: least}, 4, 0, false},
		{"empty, of mode 2", api.Word{Head: 5, Tail: 5, Mode: 2}, 4, 0, false},
		{"empty, of no mode", api.Word{Head: 5, Tail: 5, Mode: 9}, 4, 0, false},
		{"some, of no mode", api.Word{Head: 5, Tail: 8, Mode: -9}, 3, 3, true},
		{"head below 0", api.Word{Head: -2, Tail: 2}, 5, 4, false},
		{"both below 0", api.Word{Head: -7, Tail: -5}, 2, 2, true},
		{"as far as an int goes", api.Word{Head: 0, Tail: most}, most, most, true},
		{"one less than that", api.Word{Head: 1, Tail: most}, most, most - 1, false},
		{"one more than that", api.Word{Head: -1, Tail: most}, most, most, true},
		{"just round", api.Word{Head: least, Tail: 0}, most, most, true},
		{"as far apart as may be", api.Word{Head: least, Tail: most}, most, most, true},
		{"empty, at the least one", api.Word{Head: least, Tail: least}, 1, 0, false},
		{"no room", api.Word{Head: 5, Tail: 5}, 0, 0, true},
		{"room below 0", api.Word{Head: 5, Tail: 5}, -1, 0, true},
		{"room far below 0", api.Word{Head: 5, Tail: 4}, least, 0, true},
	} {
		if got, full := pos.Len(c.w), pos.Full(c.w, c.room); got != c.want || full != c.full {
			t.Errorf("%s: Len(%v) = %d, Full(.., %d) = %v", c.name, c.w, got, c.room, full)
		}
	}
}

// P1.1, R1: at all numbers, as the words of the chapter say it.
func TestWordsAtTheEdges(t *testing.T) {
	for _, head := range numbers() {
		for _, tail := range numbers() {
			for mode := -1; mode <= 3; mode++ {
				w := api.Word{Head: head, Tail: tail, Mode: mode}
				long := far(head, tail)
				if got := pos.Len(w); got != long {
					t.Errorf("Len(%v) = %d, not %d", w, got, long)
				}
				for _, room := range numbers() {
					may := head >= 0 && tail >= head && long <= room && tail <= api.MaxPos &&
						(mode == api.Open || mode == api.Draining || mode == api.Halted)
					if got := pos.Check(w, room); got != may {
						t.Errorf("Check(%v, %d) = %v", w, room, got)
					}
					if got := pos.Full(w, room); got != (long >= room) {
						t.Errorf("Full(%v, %d) = %v", w, room, got)
					}
				}
			}
		}
	}
}

// P1.2: where positions lie.
func TestPlaceAndLap(t *testing.T) {
	for _, c := range []struct{ p, room, place, lap int }{
		{11, 4, 3, 2}, // the chapter's example
		{0, 4, 0, 0}, {3, 4, 3, 0}, {4, 4, 0, 1}, {7, 4, 3, 1}, {8, 4, 0, 2},
		{10, 3, 1, 3}, // a room that is no power of two
		{9, 1, 0, 9},
		{api.MaxPos, 64, 0, 1 << 34}, {api.MaxPos - 1, 64, 63, 1<<34 - 1},
		{most, most, 0, 1}, {most - 1, most, most - 1, 0}, {most, 2, 1, 1<<62 - 1},
		{-1, 4, 0, 0}, {-5, 4, 0, 0}, {least, 4, 0, 0},
		{7, 0, 0, 0}, {7, -1, 0, 0}, {7, -4, 0, 0}, {7, least, 0, 0},
		{-7, -4, 0, 0}, {least, -1, 0, 0}, {-1, 0, 0, 0},
	} {
		if place, lap := pos.Place(c.p, c.room), pos.Lap(c.p, c.room); place != c.place || lap != c.lap {
			t.Errorf("of %d, room %d: Place %d, Lap %d", c.p, c.room, place, lap)
		}
	}
}

// P1.2: which one lies ahead, at the same place.
func TestAhead(t *testing.T) {
	for _, c := range []struct {
		p, q, room int
		want       bool
	}{
		{3, 7, 4, true}, {3, 11, 4, true}, {0, 4, 4, true}, {1, 7, 3, true}, {3, 4, 1, true},
		{0, most, most, true}, {most - 2, most, 2, true},
		{7, 3, 4, false}, {3, 3, 4, false}, {0, 0, 4, false},
		{3, 6, 4, false}, {3, 8, 4, false}, {1, 2, 4, false},
		{-1, 3, 4, false}, {3, -1, 4, false}, {-4, 0, 4, false}, {-8, -4, 4, false}, {least, 0, 4, false},
		{3, 7, 0, false}, {3, 7, -4, false}, {0, 1, -1, false}, {0, 4, least, false},
	} {
		if got := pos.Ahead(c.p, c.q, c.room); got != c.want {
			t.Errorf("Ahead(%d, %d, %d) = %v", c.p, c.q, c.room, got)
		}
	}
}

// P1.2, R1: at all numbers, by division of numbers that do not go round.
func TestPositionsAtTheEdges(t *testing.T) {
	lies := func(p, room int) (int, int) {
		if p < 0 || room < 1 {
			return 0, 0
		}
		lap, place := new(big.Int).DivMod(bigger(p), bigger(room), new(big.Int))
		return int(place.Int64()), int(lap.Int64())
	}
	for _, p := range numbers() {
		for _, room := range numbers() {
			place, lap := lies(p, room)
			if pos.Place(p, room) != place || pos.Lap(p, room) != lap {
				t.Errorf("of %d, room %d: Place %d, Lap %d", p, room, pos.Place(p, room), pos.Lap(p, room))
			}
			for _, q := range numbers() {
				other, _ := lies(q, room)
				want := p >= 0 && q >= 0 && room >= 1 && place == other && p < q
				if got := pos.Ahead(p, q, room); got != want {
					t.Errorf("Ahead(%d, %d, %d) = %v", p, q, room, got)
				}
			}
		}
	}
}

// P1.3: a position is its lap times the room, and its place; next to one lies the next place, or the first one of the next lap.
func TestNextPlace(t *testing.T) {
	for _, room := range []int{1, 2, 3, 4, 7, 64, api.MaxPos} {
		for _, from := range []int{0, room - 1, api.MaxPos - 70, most - 200} {
			for p := from; p < from+150; p++ {
				place, lap := pos.Place(p, room), pos.Lap(p, room)
				if place < 0 || place >= room || lap*room+place != p {
					t.Fatalf("of %d, room %d: Place %d, Lap %d", p, room, place, lap)
				}
				place++
				if place == room {
					place, lap = 0, lap+1
				}
				if pos.Place(p+1, room) != place || pos.Lap(p+1, room) != lap {
					t.Fatalf("next to %d, room %d: Place %d, Lap %d", p, room, pos.Place(p+1, room), pos.Lap(p+1, room))
				}
			}
		}
	}
}

// P1.3: whoever lies ahead at a place has a lesser lap.
func TestAheadByLaps(t *testing.T) {
	for room := 1; room <= 5; room++ {
		for p := 0; p < 20; p++ {
			for q := 0; q < 20; q++ {
				want := pos.Place(p, room) == pos.Place(q, room) && pos.Lap(p, room) < pos.Lap(q, room)
				if pos.Ahead(p, q, room) != want {
					t.Errorf("Ahead(%d, %d, %d) = %v", p, q, room, !want)
				}
			}
		}
	}
}

// R4: the same is answered however goroutines run.
func TestSameAnswers(t *testing.T) {
	var all sync.WaitGroup
	for range 8 {
		all.Go(func() {
			for n := range 1000 {
				w := api.Word{Head: n, Tail: n + 3, Mode: n % 3}
				if !pos.Check(w, 4) || pos.Len(w) != 3 || pos.Full(w, 4) || !pos.Full(w, 3) {
					t.Errorf("%v: other answers", w)
				}
				if pos.Place(n, 4) != n%4 || pos.Lap(n, 4) != n/4 || !pos.Ahead(n, n+8, 4) {
					t.Errorf("%d: other answers", n)
				}
			}
		})
	}
	all.Wait()
}
