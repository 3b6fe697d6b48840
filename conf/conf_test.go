package conf_test

import (
	"slices"
	"sync"
	"testing"

	"sakia/api"
	"sakia/conf"
)

const (
	most  = 1<<63 - 1
	least = -1 << 63
)

// phased is a configuration that may be, and whose tries may be set.
func phased() api.Config {
	return api.Config{Log: 3, Threads: 4, Policy: api.Block, Wait: api.Phased, Spin: 2, Yield: 1}
}

// with is that one, changed.
func with(change func(c *api.Config)) api.Config {
	c := phased()
	change(&c)
	return c
}

// waits is that one, with another way to wait, and that many tries.
func waits(way, spin, yield int) api.Config {
	return with(func(c *api.Config) { c.Wait, c.Spin, c.Yield = way, spin, yield })
}

// answers is all that is told of one configuration.
type answers struct {
	err         api.Errno
	room, tries int
	parks       bool
}

func ask(c api.Config) answers {
	return answers{conf.Check(c), conf.Room(c), conf.Tries(c), conf.Parks(c)}
}

// never is what is told of one that may not be.
var never = answers{err: 20}

// P2.1: the limits, one by one.
func TestOne(t *testing.T) {
	for _, c := range []struct {
		name string
		c    api.Config
		want answers
	}{
		{"phased", phased(), answers{0, 8, 3, true}}, // the chapter's example: Log 3, Room 8
		{"single", with(func(c *api.Config) { c.Single = true }), answers{0, 8, 3, true}},
		{"nothing set", api.Config{}, never},

		{"least log", with(func(c *api.Config) { c.Log = 1 }), answers{0, 2, 3, true}},
		{"greatest log", with(func(c *api.Config) { c.Log = 6 }), answers{0, 64, 3, true}},
		{"log 0", with(func(c *api.Config) { c.Log = 0 }), never},
		{"log above", with(func(c *api.Config) { c.Log = 7 }), never},
		{"log below 0", with(func(c *api.Config) { c.Log = -1 }), never},
		{"log of a whole int", with(func(c *api.Config) { c.Log = 64 }), never},
		{"log far above", with(func(c *api.Config) { c.Log = most }), never},
		{"log far below", with(func(c *api.Config) { c.Log = least }), never},

		{"one thread", with(func(c *api.Config) { c.Threads = 1 }), answers{0, 8, 3, true}},
		{"most threads", with(func(c *api.Config) { c.Threads = 16 }), answers{0, 8, 3, true}},
		{"no thread", with(func(c *api.Config) { c.Threads = 0 }), never},
		{"too many threads", with(func(c *api.Config) { c.Threads = 17 }), never},
		{"threads below 0", with(func(c *api.Config) { c.Threads = -1 }), never},

		{"new ones go", with(func(c *api.Config) { c.Policy = api.DropNew }), answers{0, 8, 3, true}},
		{"old ones go", with(func(c *api.Config) { c.Policy = api.DropOld }), answers{0, 8, 3, true}},
		{"policy above", with(func(c *api.Config) { c.Policy = 3 }), never},
		{"policy below", with(func(c *api.Config) { c.Policy = -1 }), never},

		{"most spins", waits(api.Phased, 8, 0), answers{0, 8, 8, true}},
		{"most yields", waits(api.Phased, 0, 8), answers{0, 8, 8, true}},
		{"most of both", waits(api.Phased, 8, 8), answers{0, 8, 16, true}},
		{"phased without tries", waits(api.Phased, 0, 0), answers{0, 8, 0, true}},
		{"too many spins", waits(api.Phased, 9, 0), never},
		{"too many yields", waits(api.Phased, 0, 9), never},
		{"spins below 0", waits(api.Phased, -1, 1), never},
		{"yields below 0", waits(api.Phased, 1, -1), never},
		{"tries far apart", waits(api.Phased, most, least), never},

		{"busy", waits(api.Busy, 0, 0), answers{0, 8, 0, false}},
		{"yielding", waits(api.Yielding, 0, 0), answers{0, 8, 0, false}},
		{"parking", waits(api.Parking, 0, 0), answers{0, 8, 0, true}},
		{"busy, with a spin", waits(api.Busy, 1, 0), never},
		{"busy, with a yield", waits(api.Busy, 0, 1), never},
		{"yielding, with a spin", waits(api.Yielding, 1, 0), never},
		{"yielding, with a yield", waits(api.Yielding, 0, 1), never},
		{"parking, with a spin", waits(api.Parking, 1, 0), never},
		{"parking, with a yield", waits(api.Parking, 0, 1), never},
		{"busy, with tries below 0", waits(api.Busy, -1, -1), never},
		{"parking, with tries that make up 0", waits(api.Parking, 1, -1), never},
		{"way above", waits(4, 0, 0), never},
		{"way below", waits(-1, 0, 0), never},
		{"way far above", waits(most, 0, 0), never},
		{"way far below", waits(least, 0, 0), never},
	} {
		if got := ask(c.c); got != c.want {
			t.Errorf("%s: of %v: %v, not %v", c.name, c.c, got, c.want)
		}
	}
}

// edges goes through configurations of all the edges that the chapter names, what lies beside them, and numbers that lie far outside.
func edges(yield func(api.Config) bool) {
	logs := []int{least, -1, 0, 1, 2, 3, 5, 6, 7, 63, 64, most}
	threads := []int{least, -1, 0, 1, 2, 15, 16, 17, most}
	ways := []int{least, -1, 0, 1, 2, 3, 4, most}
	tries := []int{least, -1, 0, 1, 7, 8, 9, most}
	for _, log := range logs {
		for _, many := range threads {
			for _, policy := range ways {
				for _, wait := range ways {
					for _, spin := range tries {
						for _, pause := range tries {
							c := api.Config{Log: log, Threads: many, Policy: policy, Wait: wait, Spin: spin, Yield: pause}
							c.Single = (log+many)%2 == 0
							if !yield(c) {
								return
							}
						}
					}
				}
			}
		}
	}
}

// says is what the words of the chapter say of one.
func says(c api.Config) answers {
	in := func(n int, l ...int) bool { return slices.Contains(l, n) }
	may := in(c.Log, 1, 2, 3, 4, 5, 6) && c.Threads >= 1 && c.Threads <= 16 && in(c.Policy, 0, 1, 2) && in(c.Wait, 0, 1, 2, 3) &&
		c.Spin >= 0 && c.Spin <= 8 && c.Yield >= 0 && c.Yield <= 8 && (c.Wait == 2 || c.Spin == 0 && c.Yield == 0)
	switch {
	case !may:
		return never
	case in(c.Wait, 2, 3):
		return answers{0, []int{0, 2, 4, 8, 16, 32, 64}[c.Log], c.Spin + c.Yield, true}
	}
	return answers{0, []int{0, 2, 4, 8, 16, 32, 64}[c.Log], 0, false}
}

// P2.1, R1: at all edges, together.
func TestOneAtTheEdges(t *testing.T) {
	for c := range edges {
		if got, want := ask(c), says(c); got != want {
			t.Fatalf("of %v: %v, not %v", c, got, want)
		}
	}
}

// P2.1: whether thread 0 alone receives changes nothing.
func TestSingle(t *testing.T) {
	for c := range edges {
		other := c
		other.Single = !c.Single
		if ask(c) != ask(other) {
			t.Fatalf("of %v: %v, else %v", c, ask(c), ask(other))
		}
	}
}

// P2.2: how many may be, and their room.
func TestCount(t *testing.T) {
	small := with(func(c *api.Config) { c.Log = 1 })
	great := with(func(c *api.Config) { c.Log = 6 })
	wrong := with(func(c *api.Config) { c.Log = 7 })
	for _, c := range []struct {
		name       string
		l          []api.Config
		many, room int
	}{
		{"no list", nil, 0, 0},
		{"an empty one", []api.Config{}, 0, 0},
		{"one", []api.Config{phased()}, 1, 8},
		{"one wrong", []api.Config{wrong}, 0, 0},
		{"all wrong", []api.Config{wrong, {}, waits(api.Busy, 1, 0)}, 0, 0},
		{"least and greatest", []api.Config{small, great}, 2, 66},
		{"the same twice", []api.Config{small, small}, 2, 4},
		{"wrong first", []api.Config{wrong, small}, 1, 2},
		{"wrong last", []api.Config{great, wrong}, 1, 64},
		{"wrong between", []api.Config{small, wrong, phased(), {}, great}, 3, 74},
		{"who does not park", []api.Config{waits(api.Busy, 0, 0), waits(api.Parking, 0, 0)}, 2, 16},
		{"many", slices.Repeat([]api.Config{great, wrong}, 1000), 1000, 64000},
	} {
		if many, room := conf.Count(c.l); many != c.many || room != c.room {
			t.Errorf("%s: %d, %d", c.name, many, room)
		}
	}
}

// P2.2: all the edges at once.
func TestCountAtTheEdges(t *testing.T) {
	many, room := 0, 0
	for c := range edges {
		if want := says(c); want.err == 0 {
			many, room = many+1, room+want.room
		}
	}
	if m, r := conf.Count(slices.Collect(edges)); m != many || r != room || many == 0 {
		t.Errorf("%d, %d, not %d, %d", m, r, many, room)
	}
}

// P2.3: a room is a power of two, from 2 to 64.
func TestRoomIsPower(t *testing.T) {
	for log := 1; log <= 6; log++ {
		room := conf.Room(with(func(c *api.Config) { c.Log = log }))
		if room < 2 || room > 64 || room&(room-1) != 0 {
			t.Errorf("log %d: %d", log, room)
		}
		if twice := conf.Room(with(func(c *api.Config) { c.Log = log + 1 })); log < 6 && twice != 2*room {
			t.Errorf("log %d: %d, and then %d", log, room, twice)
		}
	}
}

// P2.3: what is counted of two lists is that of both, added.
func TestCountOfBoth(t *testing.T) {
	l := []api.Config{phased(), {}, waits(api.Busy, 0, 0), waits(api.Busy, 1, 0)}
	for log := range 8 {
		l = append(l, with(func(c *api.Config) { c.Log = log }))
	}
	many, room := conf.Count(l)
	for at := range len(l) + 1 {
		m, r := conf.Count(l[:at])
		n, s := conf.Count(l[at:])
		if m+n != many || r+s != room {
			t.Errorf("at %d: %d and %d, %d and %d", at, m, n, r, s)
		}
	}
}

// R3: what is handed in stays as it was, its spare room included.
func TestHandedIn(t *testing.T) {
	all := []api.Config{phased(), {}, waits(api.Parking, 0, 0), waits(api.Busy, 9, 9)}
	was := slices.Clone(all)
	conf.Count(all[:2])
	if !slices.Equal(all, was) {
		t.Errorf("%v, not %v", all, was)
	}
}

// R4: the same is answered of the same, whatever lies behind a list, and however goroutines run.
func TestSameAnswers(t *testing.T) {
	l := []api.Config{phased(), {}, waits(api.Parking, 0, 0)}
	var all sync.WaitGroup
	for spare := range 8 {
		all.Go(func() {
			mine := append(make([]api.Config, 0, len(l)+spare), l...)
			for range 500 {
				if many, room := conf.Count(mine); many != 2 || room != 16 {
					t.Errorf("%d, %d", many, room)
				}
				if got := ask(mine[0]); got != (answers{0, 8, 3, true}) {
					t.Errorf("%v", got)
				}
			}
		})
	}
	all.Wait()
}
