package wait_test

import (
	"slices"
	"sync"
	"testing"

	"sakia/api"
	"sakia/wait"
)

const (
	most  = 1<<63 - 1
	least = -1 << 63
)

// of is a configuration with that way to wait, and so many tries.
func of(way, spin, yield int) api.Config {
	return api.Config{Log: 3, Threads: 4, Wait: way, Spin: spin, Yield: yield}
}

// with is one that parks, changed.
func with(change func(c *api.Config)) api.Config {
	c := of(api.Phased, 0, 0)
	change(&c)
	return c
}

// P7.1: what one does, time by time.
func TestNext(t *testing.T) {
	for _, c := range []struct {
		name string
		c    api.Config
		n    int
		want int
	}{
		{"busy", of(api.Busy, 0, 0), 0, 0},
		{"busy, later", of(api.Busy, 0, 0), 17, 0},
		{"busy, last", of(api.Busy, 0, 0), most, 0},
		{"busy, below 0", of(api.Busy, 0, 0), least, 0},
		{"yielding", of(api.Yielding, 0, 0), 0, 1},
		{"yielding, later", of(api.Yielding, 0, 0), 17, 1},
		{"yielding, last", of(api.Yielding, 0, 0), most, 1},
		{"yielding, below 0", of(api.Yielding, 0, 0), -1, 1},
		{"parking", of(api.Parking, 0, 0), 0, 2},
		{"parking, later", of(api.Parking, 0, 0), 17, 2},
		{"parking, last", of(api.Parking, 0, 0), most, 2},
		{"parking, below 0", of(api.Parking, 0, 0), -1, 2},

		{"phased", of(api.Phased, 2, 1), 0, 0},
		{"phased, last spin", of(api.Phased, 2, 1), 1, 0},
		{"phased, the yield", of(api.Phased, 2, 1), 2, 1},
		{"phased, parks", of(api.Phased, 2, 1), 3, 2},
		{"phased, parks on", of(api.Phased, 2, 1), 4, 2},
		{"phased, last", of(api.Phased, 2, 1), most, 2},
		{"phased, a number that goes round", of(api.Phased, 2, 1), 1 << 32, 2},
		{"phased, below 0", of(api.Phased, 2, 1), -1, 0},
		{"phased, far below 0", of(api.Phased, 2, 1), least, 0},
		{"no spins", of(api.Phased, 0, 1), 0, 1},
		{"no spins, below 0", of(api.Phased, 0, 1), -1, 1},
		{"no spins, far below 0", of(api.Phased, 0, 1), least, 1},
		{"no spins, parks", of(api.Phased, 0, 1), 1, 2},
		{"no yields", of(api.Phased, 1, 0), 0, 0},
		{"no yields, parks", of(api.Phased, 1, 0), 1, 2},
		{"no tries", of(api.Phased, 0, 0), 0, 2},
		{"no tries, below 0", of(api.Phased, 0, 0), -1, 2},
		{"most tries, last spin", of(api.Phased, 8, 8), 7, 0},
		{"most tries, first yield", of(api.Phased, 8, 8), 8, 1},
		{"most tries, last yield", of(api.Phased, 8, 8), 15, 1},
		{"most tries, parks", of(api.Phased, 8, 8), 16, 2},
	} {
		if got := wait.Next(c.c, c.n); got != c.want {
			t.Errorf("%s: %d, not %d", c.name, got, c.want)
		}
	}
}

// wrong has configurations that may not be, most of which would yield, or park, if they were taken at their word.
func wrong() map[string]api.Config {
	return map[string]api.Config{
		"too many spins":        of(api.Phased, 9, 0),
		"too many yields":       of(api.Phased, 0, 9),
		"spins below 0":         of(api.Phased, -1, 2),
		"yields below 0":        of(api.Phased, 0, -1),
		"tries that go round":   of(api.Phased, most, most),
		"yielding, with spins":  of(api.Yielding, 1, 0),
		"yielding, with yields": of(api.Yielding, 0, 1),
		"parking, with spins":   of(api.Parking, 1, 0),
		"parking, with yields":  of(api.Parking, 0, 1),
		"busy, with spins":      of(api.Busy, 1, 0),
		"busy, with yields":     of(api.Busy, 0, 1),
		"way above":             of(4, 0, 0),
		"way below":             of(-1, 0, 0),
		"way far above":         of(most, 0, 0),
		"way far below":         of(least, 0, 0),
		"log 0":                 with(func(c *api.Config) { c.Log = 0 }),
		"log above":             with(func(c *api.Config) { c.Log = 7 }),
		"no thread":             with(func(c *api.Config) { c.Threads = 0 }),
		"too many threads":      with(func(c *api.Config) { c.Threads = 17 }),
		"policy above":          with(func(c *api.Config) { c.Policy = 3 }),
		"policy below":          with(func(c *api.Config) { c.Policy = -1 }),
		"parking, log 0":        with(func(c *api.Config) { c.Wait, c.Log = api.Parking, 0 }),
		"yielding, no thread":   with(func(c *api.Config) { c.Wait, c.Threads = api.Yielding, 0 }),
		"nothing set":           {},
	}
}

// P7.1, P7.2: a configuration that may not be is as one that is busy.
func TestWrong(t *testing.T) {
	for name, c := range wrong() {
		for _, n := range times() {
			if got := wait.Next(c, n); got != api.WSpin {
				t.Errorf("%s: the time %d: %d", name, n, got)
			}
		}
		if got := wait.Walk(c, 20); !slices.Equal(got, make([]int, 20)) {
			t.Errorf("%s: %v", name, got)
		}
		if n, is := wait.Until(c); n != 0 || is {
			t.Errorf("%s: %d, %v", name, n, is)
		}
	}
}

// P7.2: what one does, one time after the other.
func TestWalk(t *testing.T) {
	for _, c := range []struct {
		name string
		c    api.Config
		many int
		want []int
	}{
		{"phased", of(api.Phased, 2, 1), 5, []int{0, 0, 1, 2, 2}}, // the chapter's example
		{"phased, one", of(api.Phased, 2, 1), 1, []int{0}},
		{"phased, up to the yield", of(api.Phased, 2, 1), 3, []int{0, 0, 1}},
		{"phased, none", of(api.Phased, 2, 1), 0, nil},
		{"phased, below 0", of(api.Phased, 2, 1), -1, nil},
		{"phased, far below 0", of(api.Phased, 2, 1), least, nil},
		{"no spins", of(api.Phased, 0, 2), 4, []int{1, 1, 2, 2}},
		{"no yields", of(api.Phased, 2, 0), 4, []int{0, 0, 2, 2}},
		{"no tries", of(api.Phased, 0, 0), 2, []int{2, 2}},
		{"busy", of(api.Busy, 0, 0), 3, []int{0, 0, 0}},
		{"yielding", of(api.Yielding, 0, 0), 3, []int{1, 1, 1}},
		{"parking", of(api.Parking, 0, 0), 3, []int{2, 2, 2}},
		{"the last but one", of(api.Parking, 0, 0), 999, slices.Repeat([]int{2}, 999)},
		{"the most", of(api.Parking, 0, 0), 1000, slices.Repeat([]int{2}, 1000)},
		{"one above", of(api.Parking, 0, 0), 1001, slices.Repeat([]int{2}, 1000)},
		{"far above", of(api.Yielding, 0, 0), most, slices.Repeat([]int{1}, 1000)},
	} {
		if got := wait.Walk(c.c, c.many); !slices.Equal(got, c.want) {
			t.Errorf("%s: %v, not %v", c.name, got, c.want)
		}
	}
}

// P7.2: from which time on one parks.
func TestUntil(t *testing.T) {
	for _, c := range []struct {
		name string
		c    api.Config
		n    int
		is   bool
	}{
		{"busy", of(api.Busy, 0, 0), 0, false},
		{"yielding", of(api.Yielding, 0, 0), 0, false},
		{"parking", of(api.Parking, 0, 0), 0, true},
		{"phased", of(api.Phased, 2, 1), 3, true},
		{"no tries", of(api.Phased, 0, 0), 0, true},
		{"no spins", of(api.Phased, 0, 8), 8, true},
		{"no yields", of(api.Phased, 8, 0), 8, true},
		{"most tries", of(api.Phased, 8, 8), 16, true},
	} {
		if n, is := wait.Until(c.c); n != c.n || is != c.is {
			t.Errorf("%s: %d, %v, not %d, %v", c.name, n, is, c.n, c.is)
		}
	}
}

// P7.2: how often what was done.
func TestSpent(t *testing.T) {
	for _, c := range []struct {
		name                 string
		l                    []int
		spins, yields, parks int
	}{
		{"no list", nil, 0, 0, 0},
		{"an empty one", []int{}, 0, 0, 0},
		{"a spin", []int{0}, 1, 0, 0},
		{"a yield", []int{1}, 0, 1, 0},
		{"a park", []int{2}, 0, 0, 1},
		{"the example", []int{0, 0, 1, 2, 2}, 2, 1, 2},
		{"in no order", []int{2, 1, 0, 1, 2, 1, 2, 2}, 1, 3, 4},
		{"what nobody does", []int{-1, 3, least, most, 1 << 32, 1<<32 + 1, 2 - 1<<32}, 0, 0, 0},
		{"beside what nobody does", []int{3, 0, -1, 1, most, 2, 0, least}, 2, 1, 1},
		{"very many", slices.Repeat([]int{1, 0, 2, 1, 5, 1}, 50000), 50000, 150000, 50000},
	} {
		spins, yields, parks := wait.Spent(c.l)
		if spins != c.spins || yields != c.yields || parks != c.parks {
			t.Errorf("%s: %d, %d, %d, not %d, %d, %d", c.name, spins, yields, parks, c.spins, c.yields, c.parks)
		}
	}
}

// edges goes through configurations of all the edges that the chapters name, and what lies beside them and far outside.
func edges(yield func(api.Config) bool) {
	bounds := []int{least, -1, 0, 1, 2, 3, 4, most}
	tries := []int{least, -1, 0, 1, 2, 7, 8, 9, most}
	for _, log := range []int{0, 1, 6, 7} {
		for _, threads := range []int{0, 1, 16, 17} {
			for _, policy := range bounds {
				for _, way := range bounds {
					for _, spin := range tries {
						for _, pause := range tries {
							c := api.Config{Log: log, Threads: threads, Policy: policy, Wait: way, Spin: spin, Yield: pause}
							c.Single = (log+threads)%2 == 0
							if !yield(c) {
								return
							}
						}
					}
				}
			}
		}
	}
}

// times are numbers at the edges of how often one looks in vain, beside them, and far outside.
func times() []int {
	return []int{least, -1, 0, 1, 2, 3, 4, 7, 8, 9, 10, 14, 15, 16, 17, 999, 1000, 1001, 1 << 32, most}
}

// mayBe is what the chapters say of a configuration.
func mayBe(c api.Config) bool {
	tries := c.Spin >= 0 && c.Spin <= 8 && c.Yield >= 0 && c.Yield <= 8
	if c.Wait != 2 {
		tries = c.Spin == 0 && c.Yield == 0
	}
	return c.Log >= 1 && c.Log <= 6 && c.Threads >= 1 && c.Threads <= 16 &&
		c.Policy >= 0 && c.Policy <= 2 && c.Wait >= 0 && c.Wait <= 3 && tries
}

// says is what the chapter says of the n-th time: that many spins, that many yields, and parks.
func says(c api.Config, n int) int {
	if !mayBe(c) || c.Wait == 0 {
		return 0
	}
	if c.Wait == 1 {
		return 1
	}
	steps := append(slices.Repeat([]int{0}, c.Spin), slices.Repeat([]int{1}, c.Yield)...)
	switch {
	case n < 0:
		return says(c, 0)
	case n < len(steps):
		return steps[n]
	}
	return 2
}

// P7.1, P7.2, R1: at all edges, together.
func TestAtTheEdges(t *testing.T) {
	good := 0
	for c := range edges {
		if mayBe(c) {
			good++
		}
		for _, n := range times() {
			if got, want := wait.Next(c, n), says(c, n); got != want {
				t.Fatalf("of %v, the time %d: %d, not %d", c, n, got, want)
			}
		}
		var want []int
		for n := range 18 {
			want = append(want, says(c, n))
		}
		if got := wait.Walk(c, 18); !slices.Equal(got, want) {
			t.Fatalf("of %v: %v, not %v", c, got, want)
		}
		until := slices.Index(want, 2)
		if n, is := wait.Until(c); is != (until >= 0) || n != max(until, 0) {
			t.Fatalf("of %v: %d, %v, not %d", c, n, is, until)
		}
	}
	if good != 2*2*3*(3+5*5) {
		t.Errorf("%d may be", good)
	}
}

// P7.2: a walk is Next of each time, and as long as it was asked for, within bounds.
func TestWalkIsNext(t *testing.T) {
	for _, c := range []api.Config{of(api.Phased, 8, 8), of(api.Phased, 3, 4), of(api.Yielding, 0, 0), of(api.Busy, 1, 1)} {
		for _, many := range times() {
			got := wait.Walk(c, many)
			if len(got) != min(max(many, 0), 1000) {
				t.Errorf("of %v, %d: %d", c, many, len(got))
			}
			for n, does := range got {
				if does != wait.Next(c, n) {
					t.Errorf("of %v, %d of %d: %d", c, n, many, does)
				}
			}
		}
	}
}

// P7.2: what was spent on a walk is all of it.
func TestSpentOnWalk(t *testing.T) {
	for spin := range 9 {
		for yield := range 9 {
			for many := range 20 {
				spins, yields, parks := wait.Spent(wait.Walk(of(api.Phased, spin, yield), many))
				if spins != min(many, spin) || yields != min(many-spins, yield) || spins+yields+parks != many {
					t.Errorf("of %d, %d, %d: %d, %d, %d", spin, yield, many, spins, yields, parks)
				}
			}
		}
	}
}

// P7.3: who yields spins no more, and who parks parks on; who goes through phases parks in the end.
func TestNobodyGoesBack(t *testing.T) {
	for c := range edges {
		walk := wait.Walk(c, 40)
		if !slices.IsSorted(walk) {
			t.Fatalf("of %v: %v", c, walk)
		}
		n, is := wait.Until(c)
		if phased := mayBe(c) && c.Wait == 2; phased && (!is || n > 16) {
			t.Fatalf("of %v: %d, %v", c, n, is)
		}
		if !is {
			continue
		}
		if slices.Contains(walk[:n], api.WPark) || slices.ContainsFunc(walk[n:], func(does int) bool { return does != api.WPark }) {
			t.Fatalf("of %v: from %d on %v", c, n, walk)
		}
	}
}

// R3: what is handed in stays as it was, its spare room included; two answers share nothing.
func TestHandedIn(t *testing.T) {
	all := []int{2, 0, 1, 1, 7, 2, 0}
	was := slices.Clone(all)
	for n := range len(all) {
		wait.Spent(all[:n])
		if !slices.Equal(all, was) {
			t.Fatalf("of %d: %v", n, all)
		}
	}
	a, b := wait.Walk(of(api.Phased, 2, 1), 5), wait.Walk(of(api.Phased, 2, 1), 5)
	for n := range a[:cap(a)] {
		a[:cap(a)][n] = -1
	}
	if want := []int{0, 0, 1, 2, 2}; !slices.Equal(b, want) || !slices.Equal(wait.Walk(of(api.Phased, 2, 1), 5), want) {
		t.Errorf("%v", b)
	}
}

// R4: the same is answered of the same, whatever lies behind a list, and however goroutines run.
func TestSameAnswers(t *testing.T) {
	shared := []int{2, 0, 1, 1, 7, 2, 1}
	var group sync.WaitGroup
	for spare := range 8 {
		group.Go(func() {
			mine := append(make([]int, 0, len(shared)+spare), shared...)
			for range 200 {
				for _, l := range [][]int{mine, shared} {
					if spins, yields, parks := wait.Spent(l); spins != 1 || yields != 3 || parks != 2 {
						t.Errorf("%d, %d, %d", spins, yields, parks)
					}
				}
				if walk := wait.Walk(of(api.Phased, 1, 2), 4); !slices.Equal(walk, []int{0, 1, 1, 2}) {
					t.Errorf("%v", walk)
				}
				if n, is := wait.Until(of(api.Phased, 1, 2)); n != 3 || !is || wait.Next(of(api.Phased, 1, 2), 2) != api.WYield {
					t.Errorf("%d, %v", n, is)
				}
			}
		})
	}
	group.Wait()
}
