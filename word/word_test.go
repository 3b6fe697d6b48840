package word_test

import (
	"math/big"
	"slices"
	"sync"
	"testing"

	"sakia/api"
	"sakia/word"
)

const (
	most  = 1<<63 - 1
	least = -1 << 63
	last  = api.MaxPos
)

// at is a word from head up to tail, of that mode.
func at(head, tail, mode int) api.Word { return api.Word{Head: head, Tail: tail, Mode: mode} }

// P8.1: who is let in, and where.
func TestAccept(t *testing.T) {
	for _, c := range []struct {
		name   string
		w      api.Word
		room   int
		tail   int
		place  int
		result int
	}{
		{"the example", at(3, 5, 0), 2, 5, 0, api.RFull},
		{"new", at(0, 0, 0), 2, 1, 0, api.ROK},
		{"nothing there", at(3, 3, 0), 2, 4, 3, api.ROK},
		{"some", at(3, 4, 0), 2, 5, 4, api.ROK},
		{"room of one", at(7, 7, 0), 1, 8, 7, api.ROK},
		{"room of one, full", at(7, 8, 0), 1, 8, 0, api.RFull},
		{"a room that is no power of two", at(7, 9, 0), 3, 10, 9, api.ROK},
		{"a great room", at(7, 900, 0), most, 901, 900, api.ROK},
		{"no room", at(3, 3, 0), 0, 3, 0, api.RFull},

		{"draining", at(3, 4, 1), 2, 4, 0, api.RClosed},
		{"draining, nothing there", at(3, 3, 1), 2, 3, 0, api.RClosed},
		{"draining, full", at(3, 5, 1), 2, 5, 0, api.RClosed},
		{"draining, at its end", at(last, last, 1), 2, last, 0, api.RClosed},
		{"draining, no room", at(3, 3, 1), 0, 3, 0, api.RClosed},
		{"halted", at(3, 4, 2), 2, 4, 0, api.RHalted},
		{"halted, nothing there", at(3, 3, 2), 2, 3, 0, api.RHalted},
		{"halted, full", at(3, 5, 2), 2, 5, 0, api.RHalted},
		{"halted, at its end", at(last, last, 2), 2, last, 0, api.RHalted},

		{"one ahead of its end", at(last-1, last-1, 0), 2, last, last - 1, api.ROK},
		{"at its end, some", at(last-1, last, 0), 2, last, 0, api.RFull},
		{"at its end, full", at(last-2, last, 0), 2, last, 0, api.RFull},
		{"at its end, nothing there", at(last, last, 0), 2, last, 0, api.RFull},
		{"at its end, a great room", at(0, last, 0), most, last, 0, api.RFull},
		{"beyond its end", at(last, last+1, 0), 2, last + 1, 0, api.RHalted},

		{"more than room", at(3, 6, 0), 2, 6, 0, api.RHalted},
		{"more than room, draining", at(3, 6, 1), 2, 6, 0, api.RHalted},
		{"tail below head", at(3, 2, 0), 2, 2, 0, api.RHalted},
		{"head below 0", at(-1, 0, 0), 2, 0, 0, api.RHalted},
		{"both below 0", at(-2, -2, 1), 2, -2, 0, api.RHalted},
		{"mode above", at(0, 0, 3), 2, 0, 0, api.RHalted},
		{"mode below", at(0, 0, -1), 2, 0, 0, api.RHalted},
		{"room below 0", at(0, 0, 0), -1, 0, 0, api.RHalted},
		{"room far below 0", at(0, 0, 1), least, 0, 0, api.RHalted},
		{"tail that would go round", at(most, most, 0), 2, most, 0, api.RHalted},
		{"as far apart as may be", at(least, most, 0), most, most, 0, api.RHalted},
	} {
		w, place, result := word.Accept(c.w, c.room)
		if w != at(c.w.Head, c.tail, c.w.Mode) || place != c.place || result != c.result {
			t.Errorf("%s: Accept(%v, %d) = %v, %d, %d", c.name, c.w, c.room, w, place, result)
		}
	}
}

// P8.2: what is taken, and from where.
func TestTake(t *testing.T) {
	for _, c := range []struct {
		name   string
		w      api.Word
		room   int
		head   int
		place  int
		result int
	}{
		{"new", at(0, 0, 0), 2, 0, 0, api.REmpty},
		{"the first one of all", at(0, 1, 0), 2, 1, 0, api.ROK},
		{"one", at(3, 4, 0), 2, 4, 3, api.ROK},
		{"full", at(3, 5, 0), 2, 4, 3, api.ROK},
		{"room of one", at(7, 8, 0), 1, 8, 7, api.ROK},
		{"a great room", at(7, 900, 0), most, 8, 7, api.ROK},
		{"nothing there", at(3, 3, 0), 2, 3, 0, api.REmpty},
		{"no room", at(3, 3, 0), 0, 3, 0, api.REmpty},

		{"draining", at(3, 4, 1), 2, 4, 3, api.ROK},
		{"draining, full", at(3, 5, 1), 2, 4, 3, api.ROK},
		{"draining, nothing there", at(3, 3, 1), 2, 3, 0, api.RClosed},
		{"draining, no room", at(3, 3, 1), 0, 3, 0, api.RClosed},
		{"halted", at(3, 4, 2), 2, 3, 0, api.RHalted},
		{"halted, nothing there", at(3, 3, 2), 2, 3, 0, api.RHalted},
		{"halted, full", at(3, 5, 2), 2, 3, 0, api.RHalted},

		{"the last one", at(last-1, last, 0), 2, last, last - 1, api.ROK},
		{"behind the last one", at(last, last, 0), 2, last, 0, api.REmpty},
		{"behind the last one, draining", at(last, last, 1), 2, last, 0, api.RClosed},
		{"all that may be", at(0, last, 0), last, 1, 0, api.ROK},
		{"beyond its end", at(last, last+1, 0), 2, last, 0, api.RHalted},

		{"more than room", at(3, 6, 0), 2, 3, 0, api.RHalted},
		{"more than room, draining", at(3, 6, 1), 2, 3, 0, api.RHalted},
		{"tail below head", at(3, 2, 0), 2, 3, 0, api.RHalted},
		{"tail below head, draining", at(3, 2, 1), 2, 3, 0, api.RHalted},
		{"head below 0", at(-1, 0, 0), 2, -1, 0, api.RHalted},
		{"both below 0", at(-2, -1, 1), 2, -2, 0, api.RHalted},
		{"mode above", at(0, 1, 3), 2, 0, 0, api.RHalted},
		{"mode below", at(0, 1, -1), 2, 0, 0, api.RHalted},
		{"room below 0", at(0, 0, 0), -1, 0, 0, api.RHalted},
		{"room far below 0", at(0, 1, 1), least, 0, 0, api.RHalted},
		{"head that would go round", at(most, least, 0), 2, most, 0, api.RHalted},
		{"as far apart as may be", at(least, most, 0), most, least, 0, api.RHalted},
	} {
		w, place, result := word.Take(c.w, c.room)
		if w != at(c.head, c.w.Tail, c.w.Mode) || place != c.place || result != c.result {
			t.Errorf("%s: Take(%v, %d) = %v, %d, %d", c.name, c.w, c.room, w, place, result)
		}
	}
}

// P8.3: what goes.
func TestEvict(t *testing.T) {
	for _, c := range []struct {
		name       string
		w          api.Word
		room, head int
		want       bool
	}{
		{"full", at(3, 5, 0), 2, 3, true},
		{"the first one of all", at(0, 2, 0), 2, 0, true},
		{"room of one", at(7, 8, 0), 1, 7, true},
		{"another one at the head since", at(3, 5, 0), 2, 2, false},
		{"one that is not the first one", at(3, 5, 0), 2, 4, false},
		{"the one at the tail", at(3, 5, 0), 2, 5, false},
		{"one at the same place, a lap ahead", at(3, 5, 0), 2, 1, false},
		{"one at the same place, a lap behind", at(3, 5, 0), 2, 5, false},
		{"head below 0", at(3, 5, 0), 2, -3, false},
		{"head far below 0", at(3, 5, 0), 2, least, false},
		{"head far above", at(3, 5, 0), 2, most, false},

		{"not full", at(3, 4, 0), 2, 3, false},
		{"nothing there", at(3, 3, 0), 2, 3, false},
		{"no room, nothing there", at(3, 3, 0), 0, 3, false},
		{"no room, nothing there, new", at(0, 0, 0), 0, 0, false},
		{"draining", at(3, 5, 1), 2, 3, false},
		{"halted", at(3, 5, 2), 2, 3, false},

		{"full, at its end", at(last-2, last, 0), 2, last - 2, true},
		{"not full, at its end", at(last-1, last, 0), 2, last - 1, false},
		{"all that may be", at(0, last, 0), last, 0, true},
		{"a great room, at its end", at(0, last, 0), most, 0, false},
		{"beyond its end", at(last-1, last+1, 0), 2, last - 1, false},

		{"more than room", at(3, 6, 0), 2, 3, false},
		{"something, and no room", at(3, 4, 0), 0, 3, false},
		{"something, and room below 0", at(3, 4, 0), -1, 3, false},
		{"nothing, and room below 0", at(3, 3, 0), -1, 3, false},
		{"tail below head", at(3, 2, 0), 2, 3, false},
		{"at -1", at(-1, 1, 0), 2, -1, false},
		{"mode above", at(3, 5, 3), 2, 3, false},
		{"mode below", at(3, 5, -1), 2, 3, false},
		{"as far apart as may be", at(least, most, 0), most, least, false},
		{"head that would go round", at(most, least, 0), 2, most, false},
	} {
		w, is := word.Evict(c.w, c.room, c.head)
		want := c.w
		if c.want {
			want.Head++
		}
		if w != want || is != c.want {
			t.Errorf("%s: Evict(%v, %d, %d) = %v, %v", c.name, c.w, c.room, c.head, w, is)
		}
	}
}

// P8.3: which mode there is then, of words that may not be too.
func TestClose(t *testing.T) {
	for _, c := range []struct{ was, mode, want int }{
		{0, 1, 1}, {0, 2, 2}, {1, 2, 2},
		{1, 1, 1}, {2, 2, 2}, {2, 1, 2},
		{0, 0, 0}, {1, 0, 1}, {2, 0, 2},
		{0, 3, 0}, {1, 3, 1}, {2, 3, 2}, {0, most, 0}, {2, most, 2},
		{0, -1, 0}, {1, -1, 1}, {2, least, 2},
		{-1, 0, -1}, {-1, 1, 1}, {-1, 2, 2}, {-1, 3, -1}, {-3, -2, -3}, {least, 1, 1}, {least, 2, 2}, {least, -1, least},
		{3, 1, 3}, {3, 2, 3}, {3, 4, 3}, {most, 2, most}, {most, least, most},
	} {
		for _, w := range []api.Word{{}, {Head: 1, Tail: 2}, {Head: 3, Tail: 2}, {Head: -5, Tail: last + 1}, {Head: last, Tail: last}, {Head: least, Tail: most}, {Head: most, Tail: least}} {
			w.Mode = c.was
			if got := word.Close(w, c.mode); got != at(w.Head, w.Tail, c.want) {
				t.Errorf("Close(%v, %d) = %v", w, c.mode, got)
			}
		}
	}
}

// P8.3: what would be told.
func TestSees(t *testing.T) {
	for _, c := range []struct {
		name    string
		w       api.Word
		room    int
		in, out int
	}{
		{"new", at(0, 0, 0), 2, api.ROK, api.REmpty},
		{"some", at(3, 4, 0), 2, api.ROK, api.ROK},
		{"full", at(3, 5, 0), 2, api.RFull, api.ROK},
		{"no room", at(3, 3, 0), 0, api.RFull, api.REmpty},
		{"at its end, some", at(last-1, last, 0), 2, api.RFull, api.ROK},
		{"at its end, nothing there", at(last, last, 0), 2, api.RFull, api.REmpty},
		{"draining, some", at(3, 4, 1), 2, api.RClosed, api.ROK},
		{"draining, full", at(3, 5, 1), 2, api.RClosed, api.ROK},
		{"draining, nothing there", at(3, 3, 1), 2, api.RClosed, api.RClosed},
		{"halted, some", at(3, 4, 2), 2, api.RHalted, api.RHalted},
		{"halted, nothing there", at(3, 3, 2), 2, api.RHalted, api.RHalted},
		{"more than room", at(3, 6, 0), 2, api.RHalted, api.RHalted},
		{"mode above", at(3, 4, 3), 2, api.RHalted, api.RHalted},
		{"mode below", at(3, 4, -1), 2, api.RHalted, api.RHalted},
		{"room below 0", at(0, 0, 0), -1, api.RHalted, api.RHalted},
		{"at -1", at(-1, 0, 0), 2, api.RHalted, api.RHalted},
	} {
		if in, out := word.Sees(c.w, c.room); in != c.in || out != c.out {
			t.Errorf("%s: Sees(%v, %d) = %d, %d", c.name, c.w, c.room, in, out)
		}
	}
}

// numbers has the edges that the document names, what lies beside them, and numbers that lie far outside.
func numbers() []int {
	return []int{least, -last, -1, 0, 1, 2, 3, 4, 5, last - 2, last - 1, last, last + 1, most - 1, most}
}

// words goes through all words of such numbers, and all rooms.
func words(yield func(api.Word, int) bool) {
	for _, head := range numbers() {
		for _, tail := range numbers() {
			for _, mode := range []int{least, -1, 0, 1, 2, 3, most} {
				for _, room := range numbers() {
					if !yield(at(head, tail, mode), room) {
						return
					}
				}
			}
		}
	}
}

// mayBe is what the chapters say of a word, by numbers that do not go round.
func mayBe(w api.Word, room int) bool {
	return w.Head >= 0 && w.Tail >= w.Head && w.Tail <= last && !above(w, room) && w.Mode >= 0 && w.Mode <= 2
}

// apart is how far the tail is above the head.
func apart(w api.Word) *big.Int {
	return new(big.Int).Sub(big.NewInt(int64(w.Tail)), big.NewInt(int64(w.Head)))
}

// above tells whether there is more than room.
func above(w api.Word, room int) bool { return apart(w).Cmp(big.NewInt(int64(room))) > 0 }

// says is what the chapter says of who would accept, and who would take.
func says(w api.Word, room int) (in, out int) {
	switch {
	case !mayBe(w, room) || w.Mode == 2:
		return 7, 7
	case w.Mode == 1 && w.Tail == w.Head:
		return 6, 6
	case w.Mode == 1:
		return 6, 1
	}
	in, out = 1, 1
	if w.Tail-w.Head == room || w.Tail == last {
		in = 2
	}
	if w.Tail == w.Head {
		out = 4
	}
	return in, out
}

// P8.1, P8.2, P8.3, R1, R2: at all numbers, as the words of the chapter say it; beside any result but ROK the word stays, and the position is 0.
func TestAtTheEdges(t *testing.T) {
	for w, room := range words {
		in, out := says(w, room)
		if a, b := word.Sees(w, room); a != in || b != out {
			t.Fatalf("Sees(%v, %d) = %d, %d, not %d, %d", w, room, a, b, in, out)
		}
		then, place := w, 0
		if in == api.ROK {
			then, place = at(w.Head, w.Tail+1, w.Mode), w.Tail
		}
		if got, p, r := word.Accept(w, room); got != then || p != place || r != in {
			t.Fatalf("Accept(%v, %d) = %v, %d, %d", w, room, got, p, r)
		}
		then, place = w, 0
		if out == api.ROK {
			then, place = at(w.Head+1, w.Tail, w.Mode), w.Head
		}
		if got, p, r := word.Take(w, room); got != then || p != place || r != out {
			t.Fatalf("Take(%v, %d) = %v, %d, %d", w, room, got, p, r)
		}
	}
}

// P8.3, R1: who goes, and what closes, at all numbers.
func TestGoesAtTheEdges(t *testing.T) {
	went := 0
	for w, room := range words {
		full := mayBe(w, room) && w.Mode == 0 && w.Tail > w.Head && w.Tail-w.Head == room
		for _, head := range numbers() {
			want, then := full && head == w.Head, w
			if want {
				then, went = at(head+1, w.Tail, 0), went+1
			}
			if got, is := word.Evict(w, room, head); got != then || is != want {
				t.Fatalf("Evict(%v, %d, %d) = %v, %v", w, room, head, got, is)
			}
		}
		for _, mode := range numbers() {
			then := w
			if (mode == 1 || mode == 2) && w.Mode < mode {
				then.Mode = mode
			}
			if got := word.Close(w, mode); got != then {
				t.Fatalf("Close(%v, %d) = %v", w, mode, got)
			}
		}
	}
	if went == 0 {
		t.Error("nobody went")
	}
}

// P8.4: what may be stays so, whatever is done to it.
func TestMayBeStays(t *testing.T) {
	for w, room := range words {
		if !mayBe(w, room) {
			continue
		}
		in, _, _ := word.Accept(w, room)
		out, _, _ := word.Take(w, room)
		then := []api.Word{in, out}
		for _, n := range numbers() {
			gone, _ := word.Evict(w, room, n)
			then = append(then, gone, word.Close(w, n))
		}
		for _, x := range then {
			if !mayBe(x, room) {
				t.Fatalf("of %v, room %d: %v", w, room, x)
			}
		}
	}
}

// ring is a word, and beside it what lies there, and the mode, as a queue would have them.
type ring struct {
	word  api.Word
	room  int
	there []int
	mode  int
	next  int
}

// act does one of what may be done to a ring, and tells whether the word did what the queue says.
func (r *ring) act(t *testing.T, does int) bool {
	t.Helper()
	var place, result int
	var went bool
	switch does {
	case 0:
		r.word, place, result = word.Accept(r.word, r.room)
		may := r.mode == 0 && len(r.there) < r.room
		if !may {
			return result != api.ROK
		}
		r.there, r.next = append(slices.Clone(r.there), r.next), r.next+1
		return result == api.ROK && place == r.next-1
	case 1:
		r.word, place, result = word.Take(r.word, r.room)
		if r.mode == 2 || len(r.there) == 0 {
			return result != api.ROK
		}
		first := r.there[0]
		r.there = r.there[1:]
		return result == api.ROK && place == first
	case 2:
		r.word, went = word.Evict(r.word, r.room, r.word.Head)
		if r.mode != 0 || len(r.there) < r.room {
			return !went
		}
		r.there = r.there[1:]
		return went
	default:
		r.word, r.mode = word.Close(r.word, does-2), max(r.mode, does-2)
		return true
	}
}

// is tells whether the word is what the queue says.
func (r *ring) is() bool {
	return mayBe(r.word, r.room) && r.word == at(r.next-len(r.there), r.next, r.mode)
}

// P8.4: whatever is done in whatever order, what was accepted is taken at its position, in order, once, or goes.
func TestInOrderOnce(t *testing.T) {
	const acts, steps = 5, 7
	for room := 1; room <= 3; room++ {
		for _, from := range []int{0, 5, last - 20} {
			for script := range acts * acts * acts * acts * acts * acts * acts {
				r := ring{word: at(from, from, 0), room: room, next: from}
				for range steps {
					if !r.act(t, script%acts) || !r.is() {
						t.Fatalf("from %d, room %d, script %d: %v", from, room, script, r)
					}
					script /= acts
				}
			}
		}
	}
}

// P8.4: up to the end of all positions each one is taken once, and then nobody is let in any more.
func TestUpToTheEnd(t *testing.T) {
	w, room := at(last-5, last-5, 0), 2
	for n := last - 5; n < last; n++ {
		var in, out, a, b int
		w, in, a = word.Accept(w, room)
		w, out, b = word.Take(w, room)
		if in != n || out != n || a != api.ROK || b != api.ROK {
			t.Fatalf("at %d: %d, %d, %d, %d", n, in, a, out, b)
		}
	}
	if in, out := word.Sees(w, room); in != api.RFull || out != api.REmpty || w != at(last, last, 0) {
		t.Errorf("%v: %d, %d", w, in, out)
	}
}

// R4: the same is answered of the same, however goroutines run.
func TestSameAnswers(t *testing.T) {
	var group sync.WaitGroup
	for range 8 {
		group.Go(func() {
			for n := range 1000 {
				in, p, a := word.Accept(at(n, n+1, 0), 2)
				out, q, b := word.Take(in, 2)
				gone, is := word.Evict(in, 2, n)
				if in != at(n, n+2, 0) || p != n+1 || a != api.ROK || out != at(n+1, n+2, 0) || q != n || b != api.ROK || gone != out || !is {
					t.Errorf("%d: %v, %v, %v", n, in, out, gone)
				}
				if x, y := word.Sees(word.Close(out, 1), 2); x != api.RClosed || y != api.ROK {
					t.Errorf("%d: %d, %d", n, x, y)
				}
			}
		})
	}
	group.Wait()
}
