package turn_test

import (
	"slices"
	"sync"
	"testing"

	"sakia/turn"
)

const (
	most  = 1<<63 - 1
	least = -1 << 63
)

// P10.1: rounds, of all that may be.
func TestRobin(t *testing.T) {
	for threads := 1; threads <= 16; threads++ {
		for _, rounds := range []int{1, 2, 3, 7, 16, 17, 500, 999, 1000} {
			l := turn.Robin(threads, rounds)
			if len(l) != threads*rounds {
				t.Fatalf("%d of %d: %d picks", rounds, threads, len(l))
			}
			for n, id := range l {
				if id != n%threads {
					t.Fatalf("%d of %d: %d at %d", rounds, threads, id, n)
				}
			}
		}
	}
}

// P10.1: rounds that are few enough to be read.
func TestRobinShort(t *testing.T) {
	for _, c := range []struct {
		threads, rounds int
		want            []int
	}{
		{1, 1, []int{0}},
		{1, 4, []int{0, 0, 0, 0}},
		{2, 1, []int{0, 1}},
		{2, 3, []int{0, 1, 0, 1, 0, 1}},
		{3, 2, []int{0, 1, 2, 0, 1, 2}},
		{16, 1, []int{0, 1, 2, 3, 4, 5, 6, 7, 8, 9, 10, 11, 12, 13, 14, 15}},
	} {
		if l := turn.Robin(c.threads, c.rounds); !slices.Equal(l, c.want) {
			t.Errorf("Robin(%d, %d) = %v", c.threads, c.rounds, l)
		}
	}
}

// P10.1, R1: none, of threads or rounds that may not be.
func TestRobinNone(t *testing.T) {
	wrong := []int{least, -1 << 40, -1000, -16, -2, -1, 0}
	for _, threads := range append(wrong, 17, 18, 1000, 1<<32+2, 1<<40, most) {
		for _, rounds := range []int{least, -1, 0, 1, 2, 1000, 1001, most} {
			if l := turn.Robin(threads, rounds); len(l) != 0 {
				t.Errorf("Robin(%d, %d): %d picks", threads, rounds, len(l))
			}
		}
	}
	for _, rounds := range append(wrong, 1001, 1002, 1<<32+2, 1<<40, most) {
		for threads := 1; threads <= 16; threads++ {
			if l := turn.Robin(threads, rounds); len(l) != 0 {
				t.Errorf("Robin(%d, %d): %d picks", threads, rounds, len(l))
			}
		}
	}
}

// P10.1, P10.2: how often one is picked, and for how long it is not.
func TestCountGap(t *testing.T) {
	long := []int{2, 0, 1, 1, 0, 2, 2, 2}
	for _, c := range []struct {
		name       string
		picks      []int
		who        int
		count, gap int
	}{
		{"the chapter's example", []int{0, 1, 1, 0}, 0, 2, 2},
		{"the other one of the example", []int{0, 1, 1, 0}, 1, 2, 1},
		{"nobody of the example", []int{0, 1, 1, 0}, 2, 0, 4},
		{"no picks", nil, 0, 0, 0},
		{"an empty list", []int{}, 0, 0, 0},
		{"one, it", []int{3}, 3, 1, 0},
		{"one, another", []int{3}, 2, 0, 1},
		{"it alone", []int{3, 3, 3}, 3, 3, 0},
		{"others alone", []int{3, 4, 3}, 5, 0, 3},
		{"not at first", []int{1, 1, 1, 0, 1, 0}, 0, 2, 3},
		{"not at last", []int{0, 1, 0, 1, 1, 1}, 0, 2, 3},
		{"not between", []int{0, 1, 0, 1, 1, 1, 0, 1}, 0, 3, 3},
		{"not at first, nor between, as long", []int{1, 1, 0, 1, 1, 0}, 0, 2, 2},
		{"not at first, nor at last", []int{1, 1, 0, 1, 1, 1}, 0, 1, 3},
		{"a long one, then short ones", []int{0, 1, 2, 3, 0, 1, 0, 1, 2, 0}, 0, 4, 3},
		{"others of all kinds between", []int{0, 5, 0, 7, 8, -1, 0}, 0, 3, 3},
		{"at both ends alone", []int{0, 1, 2, 3, 4, 0}, 0, 2, 4},
		{"long, 0", long, 0, 2, 3},
		{"long, 1", long, 1, 2, 4},
		{"long, 2", long, 2, 4, 4},
		{"long, nobody", long, 3, 0, 8},
		{"below 0", []int{-1, 0, 0, -1, 0}, -1, 2, 2},
		{"the least", []int{0, least, 0, 0}, least, 1, 2},
		{"the greatest", []int{0, most, 0, most}, most, 2, 1},
		{"no thread that may be", []int{16, 0, 17, 16}, 16, 2, 2},
		{"one that goes round", []int{0, 1, 0}, 1 << 32, 0, 3},
		{"no picks, the least", nil, least, 0, 0},
	} {
		if n := turn.Count(c.picks, c.who); n != c.count {
			t.Errorf("%s: Count(%v, %d) = %d", c.name, c.picks, c.who, n)
		}
		if n := turn.Gap(c.picks, c.who); n != c.gap {
			t.Errorf("%s: Gap(%v, %d) = %d", c.name, c.picks, c.who, n)
		}
	}
}

// P10.2: whether all are in each window.
func TestFair(t *testing.T) {
	long := []int{2, 0, 1, 1, 0, 2, 2, 2}
	for _, c := range []struct {
		name   string
		picks  []int
		who    []int
		window int
		want   bool
	}{
		{"the example, as long as the gap", []int{0, 1, 1, 0}, []int{0}, 2, false},
		{"the example, longer by one", []int{0, 1, 1, 0}, []int{0}, 3, true},
		{"one, always picked", []int{0, 0, 0}, []int{0}, 1, true},
		{"one, not always picked", []int{0, 1, 0}, []int{0}, 1, false},
		{"one, each other time", []int{0, 1, 0}, []int{0}, 2, true},
		{"not at first", long, []int{1}, 4, false},
		{"not at last", long, []int{0}, 3, false},
		{"not at last, longer by one", long, []int{0}, 4, true},
		{"two, one of them not", long, []int{0, 1}, 4, false},
		{"two, the other way round", long, []int{1, 0}, 4, false},
		{"two, longer by one", long, []int{0, 1}, 5, true},
		{"all", long, []int{0, 1, 2}, 5, true},
		{"all, the middle one not", long, []int{0, 2, 1}, 4, false},
		{"one twice", long, []int{0, 0}, 4, true},
		{"one twice, not", long, []int{0, 0}, 3, false},

		{"nobody asked for", long, nil, 1, true},
		{"nobody asked for, an empty list", long, []int{}, 1, true},
		{"nobody asked for, all picks", long, nil, 8, true},
		{"nobody asked for, no picks", nil, nil, 1, true},
		{"nobody asked for, a window of 0", long, nil, 0, false},
		{"nobody asked for, a window below 0", long, nil, -1, false},
		{"nobody asked for, no picks, a window of 0", nil, nil, 0, false},
		{"nobody asked for, no picks, a window below 0", nil, nil, -7, false},

		{"a window of 0", []int{0, 0}, []int{0}, 0, false},
		{"a window below 0", []int{0, 0}, []int{0}, -1, false},
		{"a window far below 0", []int{0, 0}, []int{0}, least, false},
		{"no picks, a window of 0", nil, []int{0}, 0, false},
		{"no picks, a window far below 0", nil, []int{0}, least, false},

		{"as many picks, not there", long, []int{3}, 8, false},
		{"fewer picks, not there", long, []int{3}, 9, true},
		{"far fewer picks, not there", long, []int{3}, most, true},
		{"no picks, a window of 1", nil, []int{3}, 1, true},
		{"as many picks, there once", []int{1, 2, 3}, []int{1, 2, 3}, 3, true},
		{"as many picks, one is not there", []int{1, 2, 3}, []int{1, 2, 4}, 3, false},
		{"fewer picks, more asked for", []int{1, 2}, []int{1, 2, 3, 4}, 3, true},
		{"more asked for than the window has room", []int{0, 1, 2, 0, 1, 2}, []int{0, 1, 2}, 2, false},

		{"below 0", []int{-1, 0, -1}, []int{-1}, 2, true},
		{"below 0, not there", []int{-1, 0, -1}, []int{-2}, 3, false},
		{"the least and the greatest", []int{least, most, least}, []int{most, least}, 2, true},
		{"no threads that may be", []int{16, 17, 16}, []int{17, 16}, 2, true},
		{"one that goes round", []int{0, 0}, []int{1 << 32}, 2, false},
	} {
		if is := turn.Fair(c.picks, c.who, c.window); is != c.want {
			t.Errorf("%s: Fair(%v, %v, %d) = %v", c.name, c.picks, c.who, c.window, is)
		}
	}
}

// P10.2: the least window, and whether there is one.
func TestLeast(t *testing.T) {
	long := []int{2, 0, 1, 1, 0, 2, 2, 2}
	for _, c := range []struct {
		name   string
		picks  []int
		who    []int
		window int
		is     bool
	}{
		{"the example", []int{0, 1, 1, 0}, []int{0}, 3, true},
		{"both of the example", []int{0, 1, 1, 0}, []int{0, 1}, 3, true},
		{"one, always picked", []int{7, 7}, []int{7}, 1, true},
		{"one alone", []int{7}, []int{7}, 1, true},
		{"one alone, another", []int{7}, []int{8}, 0, false},
		{"0", long, []int{0}, 4, true},
		{"all", long, []int{0, 1, 2}, 5, true},
		{"all, the other way round", long, []int{2, 1, 0}, 5, true},
		{"one twice", long, []int{0, 0}, 4, true},
		{"as many as there are picks", []int{1, 2, 3, 0}, []int{0}, 4, true},
		{"as many as there are picks, the first one", []int{0, 1, 2, 3}, []int{0}, 4, true},
		{"not there", long, []int{3}, 0, false},
		{"one of them not there", long, []int{0, 1, 2, 3}, 0, false},
		{"the first of them not there", long, []int{3, 0}, 0, false},
		{"nobody asked for", long, nil, 1, true},
		{"nobody asked for, an empty list", long, []int{}, 1, true},
		{"nobody asked for, one pick", []int{4}, nil, 1, true},
		{"nobody asked for, no picks", nil, nil, 0, false},
		{"nobody asked for, empty lists", []int{}, []int{}, 0, false},
		{"no picks", nil, []int{0}, 0, false},
		{"below 0", []int{-1, 0, -1}, []int{-1, 0}, 2, true},
		{"the least and the greatest", []int{least, most, least}, []int{most, least}, 2, true},
	} {
		if n, is := turn.Least(c.picks, c.who); n != c.window || is != c.is {
			t.Errorf("%s: Least(%v, %v) = %d, %v", c.name, c.picks, c.who, n, is)
		}
	}
}

// lists goes through all lists of up to so many of such numbers.
func lists(upTo int, numbers ...int) func(func([]int) bool) {
	return func(yield func([]int) bool) {
		now := [][]int{nil}
		for range upTo + 1 {
			next := [][]int{}
			for _, l := range now {
				if !yield(l) {
					return
				}
				for _, x := range numbers {
					next = append(next, append(slices.Clone(l), x))
				}
			}
			now = next
		}
	}
}

// count is what the chapter says of Count.
func count(picks []int, who int) int {
	return len(slices.DeleteFunc(slices.Clone(picks), func(x int) bool { return x != who }))
}

// gap is what the chapter says of Gap: of all picks that follow one another, the most of which none is who.
func gap(picks []int, who int) int {
	n := 0
	for from := range picks {
		for to := from; to <= len(picks); to++ {
			if !slices.Contains(picks[from:to], who) {
				n = max(n, to-from)
			}
		}
	}
	return n
}

// fair is what the chapter says of Fair: each window is looked at for each of who.
func fair(picks, who []int, window int) bool {
	if window < 1 || len(picks) < window {
		return window >= 1
	}
	for from := 0; from+window <= len(picks); from++ {
		for _, id := range who {
			if !slices.Contains(picks[from:from+window], id) {
				return false
			}
		}
	}
	return true
}

// windows are those at the edges, beside them, and far outside.
func windows(picks []int) []int {
	l := []int{least, -2, -1, 1 << 32, 1 << 40, most - 1, most}
	for n := range len(picks) + 3 {
		l = append(l, n)
	}
	return l
}

// P10.1, P10.2: of all short picks, as the words of the chapter say it.
func TestAsTheWordsSay(t *testing.T) {
	for picks := range lists(7, 0, 1, 2) {
		for _, who := range []int{least, -1, 0, 1, 2, 3, 16, most} {
			if n := turn.Count(picks, who); n != count(picks, who) {
				t.Fatalf("Count(%v, %d) = %d", picks, who, n)
			}
			if n := turn.Gap(picks, who); n != gap(picks, who) {
				t.Fatalf("Gap(%v, %d) = %d", picks, who, n)
			}
		}
		for who := range lists(2, 0, 1, 2, -1) {
			first := 0
			for _, window := range windows(picks) {
				want := fair(picks, who, window)
				if is := turn.Fair(picks, who, window); is != want {
					t.Fatalf("Fair(%v, %v, %d) = %v", picks, who, window, is)
				}
				if want && window <= len(picks) && first == 0 {
					first = window
				}
			}
			if n, is := turn.Least(picks, who); n != first || is != (first > 0) {
				t.Fatalf("Least(%v, %v) = %d, %v", picks, who, n, is)
			}
		}
	}
}

// P10.2: who is asked for in longer lists, as the words of the chapter say it.
func TestMoreAskedFor(t *testing.T) {
	for who := range lists(4, 0, 1, 2, 3) {
		for _, picks := range [][]int{{0, 1, 2, 3, 0, 1, 2, 3}, {3, 3, 0, 2, 1, 1, 1, 0, 2, 3}, {0, 1, 0, 1, 0, 1, 2}, {2, 1, 2, 0, 2, 1, 2, 3, 2, 1, 2, 0, 2, 1, 2}} {
			for _, window := range windows(picks) {
				if is := turn.Fair(picks, who, window); is != fair(picks, who, window) {
					t.Fatalf("Fair(%v, %v, %d) = %v", picks, who, window, is)
				}
			}
		}
	}
}

// P10.3: it is fair of a window just if each one's gap is less.
func TestFairByGaps(t *testing.T) {
	for picks := range lists(5, 0, 1, -4) {
		for who := range lists(3, 0, 1, -4, 9) {
			for _, window := range windows(picks) {
				// Below 1 there is no window, though nobody may be asked for.
				less := window >= 1
				for _, id := range who {
					less = less && turn.Gap(picks, id) < window
				}
				if is := turn.Fair(picks, who, window); is != less {
					t.Fatalf("Fair(%v, %v, %d) = %v", picks, who, window, is)
				}
			}
		}
	}
}

// P10.3: in rounds each thread is picked as often as there are rounds, and in each window of as many picks as there are threads.
func TestRounds(t *testing.T) {
	for threads := 1; threads <= 16; threads++ {
		for _, rounds := range []int{1, 2, 3, 40, 1000} {
			l, all := turn.Robin(threads, rounds), turn.Robin(threads, 1)
			for id := range threads {
				if n := turn.Count(l, id); n != rounds {
					t.Fatalf("%d of %d: %d is picked %d times", rounds, threads, id, n)
				}
			}
			for _, id := range []int{-1, threads, threads + 1, most} {
				if n := turn.Count(l, id); n != 0 {
					t.Fatalf("%d of %d: %d is picked %d times", rounds, threads, id, n)
				}
			}
			if n, is := turn.Least(l, all); n != threads || !is || turn.Fair(l, all, threads-1) || !turn.Fair(l, all, threads) {
				t.Fatalf("%d of %d: fair of %d, %v", rounds, threads, n, is)
			}
		}
	}
}

// R1: of long lists, of picks and of who is asked for, each call ends soon.
func TestLong(t *testing.T) {
	const many = 200_000
	picks, who := make([]int, 0, 2*many), make([]int, 0, many)
	for n := range many {
		who = append(who, n)
	}
	picks = append(append(picks, who...), who...)
	if n, is := turn.Least(picks, who); n != many || !is || !turn.Fair(picks, who, many) || turn.Fair(picks, who, many-1) {
		t.Errorf("%d, %v", n, is)
	}
	if n, is := turn.Least(picks, append(who, -1)); n != 0 || is {
		t.Errorf("one is not there: %d, %v", n, is)
	}
	if turn.Count(picks, 5) != 2 || turn.Gap(picks, 5) != many-1 || turn.Gap(picks, -1) != 2*many {
		t.Errorf("%d, %d", turn.Count(picks, 5), turn.Gap(picks, 5))
	}
}

// R3: what is handed in stays as it was, its spare room included.
func TestHandedIn(t *testing.T) {
	for _, was := range [][]int{{0, 1, 1, 0, 2, 2}, {5, 5, 5}, {-1, 3, most, 3, least}} {
		for n := range len(was) + 1 {
			for m := range len(was) + 1 {
				picks, who := slices.Clone(was), slices.Clone(was)
				for _, window := range windows(was) {
					turn.Fair(picks[:n], who[:m], window)
				}
				turn.Least(picks[:n], who[:m])
				turn.Count(picks[:n], was[0])
				turn.Gap(picks[:n], was[0])
				if !slices.Equal(picks, was) || !slices.Equal(who, was) {
					t.Fatalf("of %d, %d: %v, %v, not %v", n, m, picks, who, was)
				}
			}
		}
	}
}

// R3: one list may be handed in twice; and rounds share nothing with others.
func TestShared(t *testing.T) {
	l := []int{0, 1, 2, 0, 1, 2, 1}
	if n, is := turn.Least(l, l); n != 4 || !is || !turn.Fair(l, l[:3], 4) || turn.Fair(l, l[1:3], 2) {
		t.Errorf("%d, %v", n, is)
	}
	a, b := turn.Robin(3, 2), turn.Robin(3, 2)
	a = a[:cap(a)]
	for n := range a {
		a[n] = 9
	}
	if want := []int{0, 1, 2, 0, 1, 2}; !slices.Equal(b, want) || !slices.Equal(turn.Robin(3, 2), want) {
		t.Errorf("%v", b)
	}
}

// R4: the same is answered of the same, whatever lies behind a list, and however goroutines run.
func TestSameAnswers(t *testing.T) {
	shared := []int{2, 0, 1, 1, 0, 2, 2, 2}
	var group sync.WaitGroup
	for spare := range 8 {
		group.Go(func() {
			mine := append(make([]int, 0, len(shared)+spare), shared...)
			for range 200 {
				for _, l := range [][]int{mine, shared} {
					n, is := turn.Least(l, l)
					if n != 5 || !is || turn.Fair(l, l, 4) || !turn.Fair(l, l, 5) || turn.Gap(l, 0) != 3 || turn.Count(l, 2) != 4 {
						t.Errorf("other answers: %d, %v", n, is)
					}
				}
				if l := turn.Robin(2, 2); !slices.Equal(l, []int{0, 1, 0, 1}) {
					t.Errorf("%v", l)
				}
			}
		})
	}
	group.Wait()
}
