package slot_test

import (
	"slices"
	"sync"
	"testing"

	"sakia/api"
	"sakia/slot"
)

const (
	most  = 1<<63 - 1
	least = -1 << 63
	last  = 1 << 40
)

// of has slots of these stamps, with values that are unlike each other.
func of(stamps ...int) []api.Slot {
	l := []api.Slot{}
	for n, stamp := range stamps {
		l = append(l, api.Slot{Stamp: stamp, Val: 100 + n})
	}
	return l
}

// first has the stamps that so many slots have at first.
func first(room int) []int {
	l := []int{}
	for n := range room {
		l = append(l, n)
	}
	return l
}

// put is slots with another one at a place.
func put(l []api.Slot, place int, s api.Slot) []api.Slot {
	return slices.Concat(l[:place], []api.Slot{s}, l[place+1:])
}

// right has slots that may be.
func right() map[string][]api.Slot {
	return map[string][]api.Slot{
		"one":                         of(0),
		"one, laps later":             of(7),
		"one, at the greatest stamp":  of(2 * last),
		"two":                         of(0, 1),
		"the chapter's example":       of(2, 1),
		"laps apart":                  of(3, 1, 92),
		"no power of two":             of(3, 7, 2),
		"at the last position":        of(last, last+1),
		"at the greatest stamp":       of(2*last, 1),
		"ahead of the greatest stamp": of(0, 2*last-1),
		"values of all kinds":         {{Stamp: 0, Val: most}, {Stamp: 1, Val: least}, {Stamp: 2, Val: -1}},
		"63":                          of(first(63)...),
		"as many as may be":           of(first(64)...),
		"as many, one laps later":     put(of(first(64)...), 63, api.Slot{Stamp: 127}),
	}
}

// wrong has slots that may not be.
func wrong() map[string][]api.Slot {
	return map[string][]api.Slot{
		"no list":                  nil,
		"an empty one":             {},
		"all 0":                    make([]api.Slot, 2),
		"the other way round":      of(1, 0),
		"one off":                  of(0, 2),
		"the first one off":        of(1, 1, 2),
		"the last one off":         of(0, 1, 3),
		"one off, laps later":      of(5, 5),
		"of another room":          of(0, 1, 6),
		"below 0, one":             of(-1),
		"below 0, at its place":    of(-2, 1),
		"below 0, behind":          of(0, -1),
		"below 0, as its place":    of(0, 1, -1),
		"far below 0":              of(least, 1),
		"above":                    of(2*last + 1),
		"above, at its place":      of(2*last+2, 1),
		"above, at the last place": of(0, 2*last+1),
		"far above":                of(0, most),
		"far above, one":           of(most),
		"far above, at its place":  of(most-1, 1),
		"more than may be":         of(first(65)...),
		"twice as many":            of(first(128)...),
		"very many":                of(first(100_000)...),
		"as many, the last off":    put(of(first(64)...), 63, api.Slot{Stamp: 64}),
		"as many, one below 0":     put(of(first(64)...), 0, api.Slot{Stamp: -64}),
	}
}

// edges are positions at the edges that the chapter names, beside them, and far outside.
func edges() []int {
	return []int{least, -last, -64, -2, -1, 0, 1, 2, 3, 63, 64, 65, last - 1, last, last + 1, last + 2, 2*last - 1, 2 * last, 2*last + 1, most - 1, most}
}

// P9.1: places at first.
func TestNew(t *testing.T) {
	for room := 1; room <= 64; room++ {
		l := slot.New(room)
		if len(l) != room {
			t.Fatalf("of %d: %v", room, l)
		}
		for n, s := range l {
			if s != (api.Slot{Stamp: n}) || !slot.Ready(l, n) || slot.Ready(l, n+room) {
				t.Errorf("of %d, at %d: %v", room, n, s)
			}
		}
		if !slot.Check(l) {
			t.Errorf("of %d: may be", room)
		}
	}
	for _, room := range []int{0, -1, -4, least, 65, 66, 128, 1<<32 + 4, last, most} {
		if l := slot.New(room); len(l) != 0 {
			t.Errorf("of %d: %d slots", room, len(l))
		}
	}
}

// P9.1: which slots may be.
func TestCheck(t *testing.T) {
	for name, l := range right() {
		if !slot.Check(l) {
			t.Errorf("%s: %v may be", name, l)
		}
	}
	for name, l := range wrong() {
		if slot.Check(l) {
			t.Errorf("%s: may not be", name)
		}
	}
}

// P9.1: whose turn it is.
func TestReady(t *testing.T) {
	for _, c := range []struct {
		name string
		l    []api.Slot
		p    int
		want bool
	}{
		{"new, the first", of(0, 1), 0, true},
		{"new, the second", of(0, 1), 1, true},
		{"new, a lap later", of(0, 1), 2, false},
		{"the example, released", of(2, 1), 0, false},
		{"the example, not released", of(2, 1), 1, true},
		{"the example, a lap later", of(2, 1), 2, true},
		{"the example, a lap later yet", of(2, 1), 3, false},
		{"two laps behind", of(4, 1), 0, false},
		{"two laps later", of(4, 1), 4, true},
		{"one alone", of(7), 7, true},
		{"one alone, one behind", of(7), 6, false},
		{"one alone, one later", of(7), 8, false},
		{"no power of two", of(3, 7, 2), 7, true},
		{"no power of two, a lap behind", of(3, 7, 2), 4, false},
		{"of 64", of(first(64)...), 63, true},
		{"of 64, a lap later", of(first(64)...), 127, false},
		{"the last position", of(last, 1), last, true},
		{"behind the last position", of(0, last+1), last + 1, true},
		{"the greatest stamp", of(2*last, 1), 2 * last, true},
		{"beyond the greatest stamp", of(2*last, 1), 2*last + 2, false},
		{"at -1", of(0, 1), -1, false},
		{"at -2", of(0, 1), -2, false},
		{"a position that goes round", of(0, 1), 1 << 32, false},
	} {
		if got := slot.Ready(c.l, c.p); got != c.want {
			t.Errorf("%s: Ready(%v, %d) = %v", c.name, c.l, c.p, got)
		}
	}
}

// P9.2: what is laid, and where.
func TestWrite(t *testing.T) {
	for _, c := range []struct {
		name   string
		l      []api.Slot
		p, val int
		err    api.Errno
		then   []api.Slot
	}{
		{"the first", slot.New(2), 0, 7, api.OK, []api.Slot{{Stamp: 0, Val: 7}, {Stamp: 1}}},
		{"the second", slot.New(2), 1, 7, api.OK, []api.Slot{{Stamp: 0}, {Stamp: 1, Val: 7}}},
		{"alone", slot.New(1), 0, 7, api.OK, []api.Slot{{Val: 7}}},
		{"0", of(0, 1), 1, 0, api.OK, []api.Slot{{Stamp: 0, Val: 100}, {Stamp: 1}}},
		{"below 0", slot.New(1), 0, -7, api.OK, []api.Slot{{Val: -7}}},
		{"the least", slot.New(1), 0, least, api.OK, []api.Slot{{Val: least}}},
		{"the greatest", slot.New(1), 0, most, api.OK, []api.Slot{{Val: most}}},
		{"over another", []api.Slot{{Stamp: 4, Val: 8}}, 4, 9, api.OK, []api.Slot{{Stamp: 4, Val: 9}}},
		{"a lap later", of(2, 1), 2, 7, api.OK, []api.Slot{{Stamp: 2, Val: 7}, {Stamp: 1, Val: 101}}},
		{"no power of two", of(3, 7, 2), 7, 5, api.OK, put(of(3, 7, 2), 1, api.Slot{Stamp: 7, Val: 5})},
		{"the last of 64", of(first(64)...), 63, 5, api.OK, put(of(first(64)...), 63, api.Slot{Stamp: 63, Val: 5})},
		{"at the last position", of(last), last, 5, api.OK, []api.Slot{{Stamp: last, Val: 5}}},
		{"behind the last position", of(last + 1), last + 1, 5, api.OK, []api.Slot{{Stamp: last + 1, Val: 5}}},
		{"at the greatest stamp", of(2 * last), 2 * last, 5, api.OK, []api.Slot{{Stamp: 2 * last, Val: 5}}},

		{"released", of(2, 1), 0, 7, api.ErrFull, of(2, 1)},
		{"not released yet", of(2, 1), 3, 7, api.ErrFull, of(2, 1)},
		{"laps later", of(2, 1), 40, 7, api.ErrFull, of(2, 1)},
		{"beyond the greatest stamp", of(2 * last), 2*last + 1, 7, api.ErrFull, of(2 * last)},
		{"far above", of(0, 1), most, 7, api.ErrFull, of(0, 1)},
		{"at -1", of(0, 1), -1, 7, api.ErrNone, of(0, 1)},
		{"at -2", of(0, 1), -2, 7, api.ErrNone, of(0, 1)},
		{"far below 0", of(0), least, 7, api.ErrNone, of(0)},
	} {
		if l, err := slot.Write(c.l, c.p, c.val); err != c.err || !slices.Equal(l, c.then) {
			t.Errorf("%s: Write(%v, %d, %d) = %v, %v", c.name, c.l, c.p, c.val, l, err)
		}
	}
}

// P9.2: what lies there.
func TestRead(t *testing.T) {
	for _, c := range []struct {
		name string
		l    []api.Slot
		p    int
		val  int
		err  api.Errno
	}{
		{"new", slot.New(2), 1, 0, api.OK},
		{"the first", of(0, 1), 0, 100, api.OK},
		{"the second", of(0, 1), 1, 101, api.OK},
		{"below 0", []api.Slot{{Val: -7}}, 0, -7, api.OK},
		{"the least", []api.Slot{{Val: least}}, 0, least, api.OK},
		{"the greatest", []api.Slot{{Val: most}}, 0, most, api.OK},
		{"a lap later", of(2, 1), 2, 100, api.OK},
		{"no power of two", of(3, 7, 2), 7, 101, api.OK},
		{"the last of 64", of(first(64)...), 63, 163, api.OK},
		{"at the last position", of(last), last, 100, api.OK},
		{"behind the last position", of(last + 1), last + 1, 100, api.OK},
		{"at the greatest stamp", of(2 * last), 2 * last, 100, api.OK},

		{"released", of(2, 1), 0, 0, api.ErrNone},
		{"not released yet", of(2, 1), 3, 0, api.ErrNone},
		{"laps later", of(2, 1), 40, 0, api.ErrNone},
		{"beyond the greatest stamp", of(2 * last), 2*last + 1, 0, api.ErrNone},
		{"far above", of(0, 1), most, 0, api.ErrNone},
		{"at -1", of(0, 1), -1, 0, api.ErrNone},
		{"at -2", of(0, 1), -2, 0, api.ErrNone},
		{"far below 0", of(0), least, 0, api.ErrNone},
	} {
		if val, err := slot.Read(c.l, c.p); val != c.val || err != c.err {
			t.Errorf("%s: Read(%v, %d) = %d, %v", c.name, c.l, c.p, val, err)
		}
	}
}

// P9.3: which lap comes then; what lies there stays.
func TestRelease(t *testing.T) {
	for _, c := range []struct {
		name string
		l    []api.Slot
		p    int
		err  api.Errno
		then []api.Slot
	}{
		{"the first", slot.New(2), 0, api.OK, []api.Slot{{Stamp: 2}, {Stamp: 1}}},
		{"the second", slot.New(2), 1, api.OK, []api.Slot{{Stamp: 0}, {Stamp: 3}}},
		{"alone", slot.New(1), 0, api.OK, []api.Slot{{Stamp: 1}}},
		{"something there", []api.Slot{{Stamp: 0, Val: 8}, {Stamp: 1, Val: 9}}, 1, api.OK, []api.Slot{{Stamp: 0, Val: 8}, {Stamp: 3, Val: 9}}},
		{"a lap later", of(2, 1), 2, api.OK, []api.Slot{{Stamp: 4, Val: 100}, {Stamp: 1, Val: 101}}},
		{"no power of two", of(3, 7, 2), 7, api.OK, put(of(3, 7, 2), 1, api.Slot{Stamp: 10, Val: 101})},
		{"the last of 64", slot.New(64), 63, api.OK, put(slot.New(64), 63, api.Slot{Stamp: 127})},
		{"ahead of the last position", of(0, last-1), last - 1, api.OK, put(of(0, last-1), 1, api.Slot{Stamp: last + 1, Val: 101})},
		{"at the last position", of(last, 1), last, api.OK, put(of(last, 1), 0, api.Slot{Stamp: last + 2, Val: 100})},
		{"at the last position, of 64", put(slot.New(64), 0, api.Slot{Stamp: last}), last, api.OK, put(slot.New(64), 0, api.Slot{Stamp: last + 64})},

		{"behind the last position", of(0, last+1), last + 1, api.ErrNone, of(0, last+1)},
		{"behind the last position, alone", of(last + 1), last + 1, api.ErrNone, of(last + 1)},
		{"at the greatest stamp", of(2 * last), 2 * last, api.ErrNone, of(2 * last)},
		{"released", of(2, 1), 0, api.ErrNone, of(2, 1)},
		{"not released yet", of(2, 1), 3, api.ErrNone, of(2, 1)},
		{"laps later", of(2, 1), 40, api.ErrNone, of(2, 1)},
		{"far above", of(0, 1), most, api.ErrNone, of(0, 1)},
		{"at -1", of(0, 1), -1, api.ErrNone, of(0, 1)},
		{"at -2", of(0, 1), -2, api.ErrNone, of(0, 1)},
		{"far below 0", of(0), least, api.ErrNone, of(0)},
	} {
		if l, err := slot.Release(c.l, c.p); err != c.err || !slices.Equal(l, c.then) {
			t.Errorf("%s: Release(%v, %d) = %v, %v", c.name, c.l, c.p, l, err)
		}
	}
}

// refuses checks that all is as it was, and nothing told but ErrNone.
func refuses(t *testing.T, name string, l []api.Slot, p int) {
	t.Helper()
	was := slices.Clone(l)
	a, e := slot.Write(l, p, 5)
	b, f := slot.Release(l, p)
	val, g := slot.Read(l, p)
	if e != api.ErrNone || f != api.ErrNone || g != api.ErrNone || val != 0 || slot.Ready(l, p) {
		t.Errorf("%s: at %d: %v, %v, %v, %d, %v", name, p, e, f, g, val, slot.Ready(l, p))
	}
	if !slices.Equal(a, was) || !slices.Equal(b, was) || !slices.Equal(l, was) {
		t.Errorf("%s: at %d: changed", name, p)
	}
}

// P9.1, P9.2, P9.3, R1, R2: slots that may not be stay as they are, and so do all at a position below 0.
func TestRefused(t *testing.T) {
	for name, l := range wrong() {
		at := edges()
		for n := range min(len(l), 70) {
			at = append(at, l[n].Stamp, n)
		}
		for _, p := range at {
			refuses(t, name, l, p)
		}
	}
	for name, l := range right() {
		for _, p := range []int{-1, -2, -len(l), -64, -last, least} {
			refuses(t, name, l, p)
		}
	}
}

// stamps has the edges that the chapter names, what lies beside them, and numbers that lie far outside.
func stamps() []int {
	return []int{least, -2, -1, 0, 1, 2, 3, 4, 5, last, last + 1, 2*last - 2, 2*last - 1, 2 * last, 2*last + 1, most}
}

// lists goes through all lists of up to three of such stamps.
func lists(yield func([]api.Slot) bool) {
	now := [][]int{nil}
	for range 4 {
		next := [][]int{}
		for _, l := range now {
			if !yield(of(l...)) {
				return
			}
			for _, stamp := range stamps() {
				next = append(next, append(slices.Clone(l), stamp))
			}
		}
		now = next
	}
}

// mayBe is what the chapter says of slots.
func mayBe(l []api.Slot) bool {
	for n, s := range l {
		if s.Stamp < 0 || s.Stamp > 2*last || s.Stamp%len(l) != n {
			return false
		}
	}
	return 1 <= len(l) && len(l) <= 64
}

// turn is the place of a position, if it is its turn; -1 else.
func turn(l []api.Slot, p int) int {
	if !mayBe(l) || p < 0 || l[p%len(l)].Stamp != p {
		return -1
	}
	return p % len(l)
}

// says checks what is told of a position, against the words of the chapter.
func says(t *testing.T, l []api.Slot, p int) {
	t.Helper()
	may, place := mayBe(l), turn(l, p)
	written, released, val := l, l, 0
	full, none, stays := api.ErrFull, api.ErrNone, api.ErrNone
	if !may || p < 0 {
		full = api.ErrNone
	}
	if place >= 0 {
		full, none, val = api.OK, api.OK, l[place].Val
		written = put(l, place, api.Slot{Stamp: p, Val: -9})
	}
	if place >= 0 && p <= last {
		stays, released = api.OK, put(l, place, api.Slot{Stamp: p + len(l), Val: val})
	}
	if slot.Ready(l, p) != (place >= 0) {
		t.Fatalf("Ready(%v, %d)", l, p)
	}
	if m, err := slot.Write(l, p, -9); err != full || !slices.Equal(m, written) {
		t.Fatalf("Write(%v, %d) = %v, %v", l, p, m, err)
	}
	if got, err := slot.Read(l, p); got != val || err != none {
		t.Fatalf("Read(%v, %d) = %d, %v", l, p, got, err)
	}
	if m, err := slot.Release(l, p); err != stays || !slices.Equal(m, released) {
		t.Fatalf("Release(%v, %d) = %v, %v", l, p, m, err)
	}
}

// P9.1, P9.2, P9.3, R1: at all edges, together, as the words of the chapter say it.
func TestAtTheEdges(t *testing.T) {
	good := 0
	for l := range lists {
		if slot.Check(l) != mayBe(l) {
			t.Fatalf("Check(%v)", l)
		}
		if !mayBe(l) {
			says(t, l, 0)
			continue
		}
		good++
		for _, p := range append(edges(), stamps()...) {
			says(t, l, p)
		}
	}
	if good != 11+6*5+3*4*4 {
		t.Errorf("%d may be", good)
	}
}

// ring is slots, and beside them what was laid where since its turn came, and how often each place was released.
type ring struct {
	l    []api.Slot
	from int
	vals []int
	laps []int
}

// start is a ring at its first lap from there on.
func start(room, from int) ring {
	l := slot.New(room)
	for n := range l {
		l[n].Stamp += from
	}
	return ring{l, from, make([]int, room), make([]int, room)}
}

// act lays something at a position, or releases it, as the ring says it, and tells whether all went so.
func (r *ring) act(release bool, p, val int) bool {
	place := (p - r.from) % len(r.l)
	turn := (p-r.from)/len(r.l) == r.laps[place]
	var err, not api.Errno
	if release {
		r.l, err = slot.Release(r.l, p)
		not = api.ErrNone
	} else {
		r.l, err = slot.Write(r.l, p, val)
		not = api.ErrFull
	}
	switch {
	case !turn:
		return err == not
	case release:
		r.laps[place]++
	default:
		r.vals[place] = val
	}
	return err == api.OK
}

// is tells whether what was laid is read at its turn, and nothing ahead of it or behind it.
func (r *ring) is() bool {
	for place := range r.l {
		for lap := range r.laps[place] + 3 {
			p := r.from + lap*len(r.l) + place
			val, err := slot.Read(r.l, p)
			turn := lap == r.laps[place]
			if slot.Ready(r.l, p) != turn || turn && (val != r.vals[place] || err != api.OK) || !turn && (val != 0 || err != api.ErrNone) {
				return false
			}
		}
	}
	return slot.Check(r.l)
}

// P9.4: in whatever order places are written and released, what was written is read till then; of all scripts of five acts.
func TestWrittenIsRead(t *testing.T) {
	const positions, acts, steps = 5, 2 * 5, 5
	for room := 1; room <= 3; room++ {
		for _, from := range []int{0, 6, 6 << 30} {
			for script := range acts * acts * acts * acts * acts {
				r := start(room, from)
				for n := range steps {
					does := script % acts
					if !r.act(does%2 == 1, from+does/2, 50+n) || !r.is() {
						t.Fatalf("from %d, room %d, step %d of script %d: %v", from, room, n, script, r)
					}
					script /= acts
				}
			}
		}
	}
}

// P9.4: lap by lap, each position has its turn, once, and what was laid there is read.
func TestLaps(t *testing.T) {
	for _, room := range []int{1, 2, 3, 5, 32, 63, 64} {
		l := slot.New(room)
		for p := range 4 * room {
			val, e := slot.Read(l, p)
			written, f := slot.Write(l, p, 7*p-9)
			got, g := slot.Read(written, p)
			if e != api.OK || f != api.OK || g != api.OK || got != 7*p-9 || p >= room && val != 7*(p-room)-9 {
				t.Fatalf("room %d, at %d: %v, %v, %v, %d, %d", room, p, e, f, g, val, got)
			}
			released, e := slot.Release(written, p)
			if e != api.OK || slot.Ready(released, p) || !slot.Ready(released, p+room) {
				t.Fatalf("room %d, at %d: %v, %v", room, p, e, released)
			}
			if _, e := slot.Release(released, p); e != api.ErrNone {
				t.Fatalf("room %d, at %d, again: %v", room, p, e)
			}
			l = released
		}
	}
}

// P9.3, P9.4: up to the end of all positions each one is released, and then none; what may be stays so.
func TestUpToTheEnd(t *testing.T) {
	for _, room := range []int{1, 2, 64} {
		l := start(room, last-2*room).l
		for p := last - 2*room; p <= last; p++ {
			var e, f api.Errno
			l, e = slot.Write(l, p, p)
			l, f = slot.Release(l, p)
			if e != api.OK || f != api.OK || !slot.Check(l) {
				t.Fatalf("room %d, at %d: %v, %v, %v", room, p, e, f, l)
			}
		}
		for p := last + 1; p <= last+room; p++ {
			m, e := slot.Release(l, p)
			if e != api.ErrNone || !slices.Equal(m, l) || !slot.Ready(l, p) {
				t.Fatalf("room %d, at %d: %v, %v", room, p, m, e)
			}
		}
	}
}

// apart checks that an answer, its spare room included, shares nothing with what was handed in.
func apart(t *testing.T, l, got []api.Slot) {
	t.Helper()
	was, keep := slices.Clone(l), slices.Clone(got)
	for n := range l {
		l[n].Val = -1
	}
	if !slices.Equal(got, keep) {
		t.Fatalf("of %v: %v, not %v", was, got, keep)
	}
	copy(l, was)
	got = got[:cap(got)]
	for n := range got {
		got[n] = api.Slot{Stamp: -2, Val: -2}
	}
	if !slices.Equal(l, was) {
		t.Fatalf("%v, not %v", l, was)
	}
}

// R3: what is handed in stays as it was, its spare room included, and is not kept; whatever comes of it.
func TestHandedIn(t *testing.T) {
	for _, was := range [][]api.Slot{of(0, 1, 2, 3, 4, 5), of(6, 1, 8, 3, 4, 11), of(last+1, last+2, last+3), of(3, 2, 1)} {
		for n := range len(was) + 1 {
			for _, p := range append(edges(), 4, 5, 6, 8, 11) {
				l := slices.Clone(was)
				written, _ := slot.Write(l[:n], p, 77)
				released, _ := slot.Release(l[:n], p)
				slot.Check(l[:n])
				slot.Ready(l[:n], p)
				slot.Read(l[:n], p)
				if !slices.Equal(l, was) {
					t.Fatalf("of %d, at %d: %v, not %v", n, p, l, was)
				}
				for _, got := range [][]api.Slot{written, released} {
					apart(t, l, got)
				}
			}
		}
	}
}

// R3: two answers share nothing, those of New neither.
func TestTwoAnswers(t *testing.T) {
	a, b := slot.New(3), slot.New(3)
	a[1].Val = 8
	if !slices.Equal(b, []api.Slot{{}, {Stamp: 1}, {Stamp: 2}}) {
		t.Errorf("%v", b)
	}
	c, _ := slot.Write(b, 1, 5)
	d, _ := slot.Write(b, 1, 6)
	e, _ := slot.Release(c, 1)
	c[1].Val = 9
	if d[1] != (api.Slot{Stamp: 1, Val: 6}) || e[1] != (api.Slot{Stamp: 4, Val: 5}) {
		t.Errorf("%v, %v", d, e)
	}
}

// R4: the same is answered of the same, whatever lies behind a list, and however goroutines run.
func TestSameAnswers(t *testing.T) {
	shared := of(4, 1, 2, 7)
	var group sync.WaitGroup
	for spare := range 8 {
		group.Go(func() {
			mine := append(make([]api.Slot, 0, len(shared)+spare), shared...)
			for n := range 200 {
				for _, l := range [][]api.Slot{mine, shared} {
					written, e := slot.Write(l, 2, n)
					val, f := slot.Read(written, 2)
					released, g := slot.Release(written, 2)
					if e != api.OK || f != api.OK || g != api.OK || val != n || released[2] != (api.Slot{Stamp: 6, Val: n}) {
						t.Errorf("%d: %v, %v, %v, %d, %v", n, e, f, g, val, released)
					}
					if !slot.Check(released) || !slot.Ready(released, 6) || len(slot.New(n%64+1)) != n%64+1 {
						t.Errorf("%d: other answers", n)
					}
				}
			}
		})
	}
	group.Wait()
}
