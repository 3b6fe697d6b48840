package due_test

import (
	"cmp"
	"slices"
	"sync"
	"testing"

	"sakia/api"
	"sakia/due"
)

const (
	most  = 1<<63 - 1
	least = -1 << 63
)

// dues are so many of them, each a time and a thread.
func dues(l ...[2]int) []api.Due {
	out := []api.Due{}
	for _, d := range l {
		out = append(out, api.Due{At: d[0], ID: d[1]})
	}
	return out
}

// some are dues that may be, of which two are at one time.
func some() []api.Due {
	return dues([2]int{7, 15}, [2]int{9, 0}, [2]int{9, 5}, [2]int{api.MaxTime, 1})
}

// all are dues of all threads, all at one time.
func all(at int) []api.Due {
	out := []api.Due{}
	for id := range api.MaxThreads {
		out = append(out, api.Due{At: at, ID: id})
	}
	return out
}

// wrong has dues that may not be.
func wrong() map[string][]api.Due {
	return map[string][]api.Due{
		"time below 0":             dues([2]int{-1, 3}),
		"time far below 0":         dues([2]int{least, 3}),
		"time above":               dues([2]int{api.MaxTime + 1, 3}),
		"time far above":           dues([2]int{most, 3}),
		"thread below 0":           dues([2]int{1, -1}),
		"thread far below 0":       dues([2]int{1, least}),
		"thread above":             dues([2]int{1, 16}),
		"thread far above":         dues([2]int{1, most}),
		"thread that goes round":   dues([2]int{1, 1 << 32}),
		"times turned":             dues([2]int{2, 3}, [2]int{1, 4}),
		"threads turned":           dues([2]int{2, 4}, [2]int{2, 3}),
		"the same twice":           dues([2]int{2, 3}, [2]int{2, 3}),
		"one thread twice":         dues([2]int{2, 3}, [2]int{4, 3}),
		"one thread twice, apart":  dues([2]int{2, 3}, [2]int{3, 1}, [2]int{4, 3}),
		"wrong in the midst":       dues([2]int{1, 1}, [2]int{5, 2}, [2]int{3, 3}, [2]int{8, 4}),
		"wrong at the end":         append(some(), api.Due{At: api.MaxTime, ID: 0}),
		"last thread above":        append(some(), api.Due{At: api.MaxTime, ID: 16}),
		"last time above":          append(some(), api.Due{At: api.MaxTime + 1, ID: 2}),
		"more than all":            append(all(1), api.Due{At: 2, ID: 3}),
		"more than all, and above": append(all(1), api.Due{At: 2, ID: 16}),
		"very many":                slices.Repeat(all(1), 5000),
	}
}

// P4.1: which dues may be, and which is the first one.
func TestCheckAndFirst(t *testing.T) {
	for _, c := range []struct {
		name  string
		l     []api.Due
		first api.Due
		is    bool
	}{
		{"no list", nil, api.Due{}, false},
		{"an empty one", []api.Due{}, api.Due{}, false},
		{"one", dues([2]int{4, 2}), api.Due{At: 4, ID: 2}, true},
		{"the least one", dues([2]int{0, 0}), api.Due{}, true},
		{"the greatest one", dues([2]int{api.MaxTime, 15}), api.Due{At: 1 << 40, ID: 15}, true},
		{"least and greatest", dues([2]int{0, 15}, [2]int{api.MaxTime, 0}), api.Due{ID: 15}, true},
		{"some", some(), api.Due{At: 7, ID: 15}, true},
		{"at one time", dues([2]int{3, 2}, [2]int{3, 9}), api.Due{At: 3, ID: 2}, true},
		{"all", all(6), api.Due{At: 6}, true},
	} {
		if !due.Check(c.l) {
			t.Errorf("%s: %v may be", c.name, c.l)
		}
		if d, is := due.First(c.l); d != c.first || is != c.is {
			t.Errorf("%s: of %v: %v, %v, not %v, %v", c.name, c.l, d, is, c.first, c.is)
		}
	}
	for name, l := range wrong() {
		d, is := due.First(l)
		if due.Check(l) || d != (api.Due{}) || is {
			t.Errorf("%s: %v, %v, %v", name, due.Check(l), d, is)
		}
	}
}

// P4.2: one more.
func TestPut(t *testing.T) {
	for _, c := range []struct {
		name string
		l    []api.Due
		d    api.Due
		err  api.Errno
		then []api.Due
	}{
		{"alone", nil, api.Due{At: 4, ID: 2}, api.OK, dues([2]int{4, 2})},
		{"the least, alone", nil, api.Due{}, api.OK, dues([2]int{0, 0})},
		{"the greatest, alone", []api.Due{}, api.Due{At: api.MaxTime, ID: 15}, api.OK, dues([2]int{1 << 40, 15})},
		{"ahead of all", some(), api.Due{At: 6, ID: 4}, api.OK, slices.Concat(dues([2]int{6, 4}), some())},
		{"ahead by its thread", some(), api.Due{At: 7, ID: 14}, api.OK, slices.Concat(dues([2]int{7, 14}), some())},
		{"behind by its time", some(), api.Due{At: 8, ID: 2}, api.OK, slices.Insert(some(), 1, api.Due{At: 8, ID: 2})},
		{"between, at one time", some(), api.Due{At: 9, ID: 4}, api.OK, slices.Insert(some(), 2, api.Due{At: 9, ID: 4})},
		{"behind these", some(), api.Due{At: 9, ID: 6}, api.OK, slices.Insert(some(), 3, api.Due{At: 9, ID: 6})},
		{"ahead of the last one", some()[2:], api.Due{At: api.MaxTime, ID: 0}, api.OK, slices.Insert(some()[2:], 1, api.Due{At: api.MaxTime, ID: 0})},
		{"behind all", some(), api.Due{At: api.MaxTime, ID: 2}, api.OK, append(some(), api.Due{At: api.MaxTime, ID: 2})},
		{"the last that there may be", all(3)[1:], api.Due{At: 3}, api.OK, all(3)},

		{"at another time", some(), api.Due{At: 1, ID: 5}, api.ErrTwice, some()},
		{"at the same time", some(), api.Due{At: 9, ID: 5}, api.ErrTwice, some()},
		{"who is first", some(), api.Due{At: 8, ID: 15}, api.ErrTwice, some()},
		{"at the last time", some(), api.Due{At: api.MaxTime, ID: 0}, api.ErrTwice, some()},
		{"who is last", some(), api.Due{At: 0, ID: 1}, api.ErrTwice, some()},
		{"all are there", all(3), api.Due{At: 1, ID: 7}, api.ErrTwice, all(3)},
		{"thread below 0", some(), api.Due{At: 1, ID: -1}, api.ErrNone, some()},
		{"thread above", some(), api.Due{At: 1, ID: 16}, api.ErrNone, some()},
		{"thread far below", some(), api.Due{At: 1, ID: least}, api.ErrNone, some()},
		{"thread far above", some(), api.Due{At: 1, ID: most}, api.ErrNone, some()},
		{"thread above, alone", nil, api.Due{At: 1, ID: 16}, api.ErrNone, nil},
		{"time below 0", some(), api.Due{At: -1, ID: 3}, api.ErrTime, some()},
		{"time above", some(), api.Due{At: api.MaxTime + 1, ID: 3}, api.ErrTime, some()},
		{"time far below", some(), api.Due{At: least, ID: 3}, api.ErrTime, some()},
		{"time far above", some(), api.Due{At: most, ID: 3}, api.ErrTime, some()},
		{"time above, alone", nil, api.Due{At: api.MaxTime + 1}, api.ErrTime, nil},
		{"time and thread", some(), api.Due{At: -1, ID: 16}, api.ErrTime, some()},
		{"time, and twice", some(), api.Due{At: api.MaxTime + 1, ID: 5}, api.ErrTime, some()},
	} {
		if l, err := due.Put(c.l, c.d); err != c.err || !slices.Equal(l, c.then) {
			t.Errorf("%s: %v, %v, not %v, %v", c.name, l, err, c.then, c.err)
		}
	}
}

// P4.2: one less.
func TestDrop(t *testing.T) {
	for _, c := range []struct {
		name string
		l    []api.Due
		id   int
		err  api.Errno
		then []api.Due
	}{
		{"the only one", dues([2]int{4, 2}), 2, api.OK, nil},
		{"the first one", some(), 15, api.OK, some()[1:]},
		{"one between", some(), 0, api.OK, slices.Delete(some(), 1, 2)},
		{"the other one of that time", some(), 5, api.OK, slices.Delete(some(), 2, 3)},
		{"the last one", some(), 1, api.OK, some()[:3]},
		{"of all", all(8), 15, api.OK, all(8)[:15]},
		{"who is not there", some(), 3, api.ErrNone, some()},
		{"a time, not a thread", some(), 7, api.ErrNone, some()},
		{"of none", nil, 0, api.ErrNone, nil},
		{"thread below 0", some(), -1, api.ErrNone, some()},
		{"thread above", all(8), 16, api.ErrNone, all(8)},
		{"thread far below", some(), least, api.ErrNone, some()},
		{"thread far above", some(), most, api.ErrNone, some()},
	} {
		if l, err := due.Drop(c.l, c.id); err != c.err || !slices.Equal(l, c.then) {
			t.Errorf("%s: %v, %v, not %v, %v", c.name, l, err, c.then, c.err)
		}
	}
}

// P4.3: who is late, and who is not.
func TestLate(t *testing.T) {
	for _, c := range []struct {
		name string
		l    []api.Due
		now  int
		late []int
	}{
		{"the chapter's example", dues([2]int{7, 2}, [2]int{9, 5}), 8, []int{2}},
		{"none there", nil, 8, nil},
		{"nobody yet", some(), 6, nil},
		{"now", some(), 7, []int{15}},
		{"a little later", some(), 8, []int{15}},
		{"two at one time", some(), 9, []int{15, 0, 5}},
		{"ahead of the last time", some(), api.MaxTime - 1, []int{15, 0, 5}},
		{"the last time", some(), api.MaxTime, []int{15, 0, 5, 1}},
		{"later than may be", some(), api.MaxTime + 1, []int{15, 0, 5, 1}},
		{"far later", some(), most, []int{15, 0, 5, 1}},
		{"below 0", dues([2]int{0, 0}), -1, nil},
		{"far below 0", some(), least, nil},
		{"at 0", dues([2]int{0, 3}, [2]int{0, 4}, [2]int{1, 0}), 0, []int{3, 4}},
		{"all", all(5), 5, []int{0, 1, 2, 3, 4, 5, 6, 7, 8, 9, 10, 11, 12, 13, 14, 15}},
		{"all of them later", all(5), 4, nil},
	} {
		late, rest := due.Late(c.l, c.now)
		if !slices.Equal(late, c.late) || !slices.Equal(rest, c.l[len(c.late):]) {
			t.Errorf("%s: %v, %v, not %v, %v", c.name, late, rest, c.late, c.l[len(c.late):])
		}
	}
}

// P4.2, P4.3, R1: dues that may not be stay as they are, whatever is asked of them.
func TestWrong(t *testing.T) {
	for name, l := range wrong() {
		for d := range edges {
			if m, err := due.Put(l, d); err != api.ErrNone || !slices.Equal(m, l) {
				t.Errorf("%s: put %v: %v", name, d, err)
			}
			if m, err := due.Drop(l, d.ID); err != api.ErrNone || !slices.Equal(m, l) {
				t.Errorf("%s: drop %d: %v", name, d.ID, err)
			}
			if late, rest := due.Late(l, d.At); len(late) != 0 || !slices.Equal(rest, l) {
				t.Errorf("%s: at %d: %v", name, d.At, late)
			}
		}
		for _, d := range l[:min(len(l), 20)] {
			if m, err := due.Drop(l, d.ID); err != api.ErrNone || !slices.Equal(m, l) {
				t.Errorf("%s: drop %d, who is there: %v", name, d.ID, err)
			}
		}
	}
}

// edges goes through dues at the edges that the chapter names, beside them, and far outside.
func edges(yield func(api.Due) bool) {
	for _, at := range []int{least, -1, 0, 1, 2, api.MaxTime, api.MaxTime + 1, most} {
		for _, id := range []int{least, -1, 0, 1, 15, 16, most} {
			if !yield(api.Due{At: at, ID: id}) {
				return
			}
		}
	}
}

// lists goes through all lists of up to two of the edges, and some of three.
func lists(yield func([]api.Due) bool) {
	if !yield(nil) {
		return
	}
	for a := range edges {
		if !yield([]api.Due{a}) {
			return
		}
		for b := range edges {
			if !yield([]api.Due{a, b}) || !yield([]api.Due{a, b, {At: api.MaxTime, ID: 3}}) {
				return
			}
		}
	}
}

// goesAhead is what the chapter says of two dues.
func goesAhead(d, e api.Due) bool {
	return cmp.Or(cmp.Compare(d.At, e.At), cmp.Compare(d.ID, e.ID)) < 0
}

// mayBe is what the chapter says of dues, each held against each.
func mayBe(l []api.Due) bool {
	for n, d := range l {
		if d.At < 0 || d.At > 1<<40 || d.ID < 0 || d.ID > 15 {
			return false
		}
		for _, e := range l[n+1:] {
			if d.ID == e.ID || !goesAhead(d, e) {
				return false
			}
		}
	}
	return true
}

// whereIs is where a thread's due stands; -1, if it is not there.
func whereIs(l []api.Due, id int) int {
	return slices.IndexFunc(l, func(d api.Due) bool { return d.ID == id })
}

// puts is what the chapter says of one more.
func puts(l []api.Due, d api.Due) ([]api.Due, api.Errno) {
	switch {
	case !mayBe(l):
		return l, 40
	case d.At < 0 || d.At > 1<<40:
		return l, 50
	case d.ID < 0 || d.ID > 15:
		return l, 40
	case whereIs(l, d.ID) >= 0:
		return l, 60
	}
	n := 0
	for n < len(l) && goesAhead(l[n], d) {
		n++
	}
	return slices.Insert(slices.Clone(l), n, d), 0
}

// drops is what the chapter says of one less.
func drops(l []api.Due, id int) ([]api.Due, api.Errno) {
	n := whereIs(l, id)
	if !mayBe(l) || n < 0 {
		return l, 40
	}
	return slices.Concat(l[:n], l[n+1:]), 0
}

// lates is what the chapter says of a time.
func lates(l []api.Due, now int) ([]int, []api.Due) {
	late, rest := []int{}, []api.Due{}
	for _, d := range l {
		if mayBe(l) && d.At <= now {
			late = append(late, d.ID)
		} else {
			rest = append(rest, d)
		}
	}
	return late, rest
}

// P4.1 to P4.3, R1: at all edges, together.
func TestAtTheEdges(t *testing.T) {
	good := 0
	for l := range lists {
		may, first := mayBe(l), api.Due{}
		if may {
			good++
		}
		if may && len(l) > 0 {
			first = l[0]
		}
		if d, is := due.First(l); due.Check(l) != may || d != first || is != (may && len(l) > 0) {
			t.Fatalf("%v: %v, %v, %v", l, due.Check(l), d, is)
		}
		for d := range edges {
			then, err := puts(l, d)
			if m, e := due.Put(l, d); e != err || !slices.Equal(m, then) {
				t.Fatalf("%v, put %v: %v, %v, not %v, %v", l, d, m, e, then, err)
			}
			then, err = drops(l, d.ID)
			if m, e := due.Drop(l, d.ID); e != err || !slices.Equal(m, then) {
				t.Fatalf("%v, drop %d: %v, %v, not %v, %v", l, d.ID, m, e, then, err)
			}
			who, left := lates(l, d.At)
			if late, rest := due.Late(l, d.At); !slices.Equal(late, who) || !slices.Equal(rest, left) {
				t.Fatalf("%v, at %d: %v, %v, not %v, %v", l, d.At, late, rest, who, left)
			}
		}
	}
	if good == 0 {
		t.Error("none may be")
	}
}

// book is dues, and beside them what was put, and neither dropped nor told so far.
type book struct {
	t     *testing.T
	l     []api.Due
	waits map[int]int
}

// put puts one, which may be done just if it is not there.
func (b *book) put(d api.Due) {
	b.t.Helper()
	l, err := due.Put(b.l, d)
	if _, there := b.waits[d.ID]; err == api.OK == there {
		b.t.Fatalf("%v, put %v: %v", b.l, d, err)
	} else if !there {
		b.waits[d.ID] = d.At
	}
	b.l = l
}

// drop drops one, which may be done just if it is there.
func (b *book) drop(id int) {
	b.t.Helper()
	l, err := due.Drop(b.l, id)
	if _, there := b.waits[id]; err == api.OK != there {
		b.t.Fatalf("%v, drop %d: %v", b.l, id, err)
	}
	delete(b.waits, id)
	b.l = l
}

// late lets a time come: who is told waits, and its time has come; and nobody else's has.
func (b *book) late(now int) {
	b.t.Helper()
	late, rest := due.Late(b.l, now)
	for _, id := range late {
		if at, there := b.waits[id]; !there || at > now {
			b.t.Fatalf("%v, at %d: %v", b.l, now, late)
		}
		delete(b.waits, id)
	}
	for id, at := range b.waits {
		if at <= now {
			b.t.Fatalf("%v, at %d: %d is not told", b.l, now, id)
		}
	}
	b.l = rest
}

// agrees checks that the dues are those of all that wait, and may be.
func (b *book) agrees() {
	b.t.Helper()
	if !due.Check(b.l) || len(b.l) != len(b.waits) {
		b.t.Fatalf("%v, not %v", b.l, b.waits)
	}
	for _, d := range b.l {
		if at, there := b.waits[d.ID]; !there || at != d.At {
			b.t.Fatalf("%v, not %v", b.l, b.waits)
		}
	}
}

// P4.4: who is put is told once, in time, unless dropped; of many changes, in orders that look like none.
func TestToldOnce(t *testing.T) {
	for seed := range uint32(200) {
		b, now := book{t, nil, map[int]int{}}, 0
		pick := func(below uint32) int {
			seed = seed*1664525 + 1013904223
			return int(seed >> 8 % below)
		}
		for range 400 {
			switch id := pick(api.MaxThreads); pick(4) {
			case 0, 1:
				b.put(api.Due{At: now + pick(9), ID: id})
			case 2:
				b.drop(id)
			case 3:
				now += pick(3)
				b.late(now)
			}
			b.agrees()
		}
	}
}

// P4.4: in whatever order all are put, they stand and are told in one.
func TestOneOrder(t *testing.T) {
	var want []api.Due
	for n := range api.MaxThreads {
		want = append(want, api.Due{At: n / 3, ID: n * 5 % 16})
	}
	slices.SortFunc(want, func(d, e api.Due) int { return cmp.Or(cmp.Compare(d.At, e.At), cmp.Compare(d.ID, e.ID)) })
	for step := 1; step < 16; step += 2 {
		for start := range 16 {
			var l []api.Due
			for n := range 16 {
				l, _ = due.Put(l, want[(start+n*step)%16])
			}
			late, rest := due.Late(l, most)
			if !slices.Equal(l, want) || len(rest) != 0 {
				t.Fatalf("%v, not %v; %v", l, want, rest)
			}
			for n, id := range late {
				if id != want[n].ID {
					t.Fatalf("%v, not as %v", late, want)
				}
			}
		}
	}
}

// P4.4: later on there are no fewer that are late; and it is the same in one go, and in two.
func TestLater(t *testing.T) {
	l := all(0)
	for n := range l {
		l[n].At = n / 3 * 2
	}
	for now := -1; now < 13; now++ {
		late, rest := due.Late(l, now)
		for then := now; then < 14; then++ {
			more, left := due.Late(l, then)
			if len(more) < len(late) || !slices.Equal(more[:len(late)], late) {
				t.Errorf("at %d: %v, at %d: %v", now, late, then, more)
			}
			next, last := due.Late(rest, then)
			if !slices.Equal(slices.Concat(late, next), more) || !slices.Equal(last, left) {
				t.Errorf("at %d, and then %d: %v, %v, not %v", now, then, late, next, more)
			}
		}
	}
}

// R3: what is handed in stays as it was, its spare room included, and is not kept; whatever comes of it.
func TestHandedIn(t *testing.T) {
	was := slices.Concat(some(), all(2))
	for n := range len(some()) + 3 {
		for d := range edges {
			l := slices.Clone(was)
			put, _ := due.Put(l[:n], d)
			less, _ := due.Drop(l[:n], d.ID)
			_, rest := due.Late(l[:n], d.At)
			due.First(l[:n])
			due.Check(l[:n])
			if !slices.Equal(l, was) {
				t.Fatalf("of %d, by %v: %v", n, d, l)
			}
			for _, got := range [][]api.Due{put, less, rest} {
				keep := slices.Clone(got)
				for i := range l {
					l[i] = api.Due{At: -1}
				}
				if !slices.Equal(got, keep) {
					t.Fatalf("of %d, by %v: %v, not %v", n, d, got, keep)
				}
				copy(l, was)
				got = got[:cap(got)]
				for i := range got {
					got[i] = api.Due{At: -2}
				}
				if !slices.Equal(l, was) {
					t.Fatalf("of %d, by %v: %v", n, d, l)
				}
			}
		}
	}
}

// R3: two answers share nothing.
func TestTwoAnswers(t *testing.T) {
	base, _ := due.Put(some()[:2], api.Due{At: 10, ID: 3})
	a, _ := due.Put(base, api.Due{At: 11, ID: 4})
	b, _ := due.Put(base, api.Due{At: 12, ID: 5})
	if !slices.Equal(a[:3], base) || !slices.Equal(b[:3], base) || a[3].ID != 4 || b[3].ID != 5 {
		t.Errorf("%v, %v", a, b)
	}
	late, rest := due.Late(a, 9)
	again, left := due.Late(a, 9)
	late[0], rest[0] = -1, api.Due{At: -1}
	if !slices.Equal(again, []int{15, 0}) || !slices.Equal(left, a[2:]) {
		t.Errorf("%v, %v", again, left)
	}
}

// R4: the same is answered of the same, whatever lies behind a list, and however goroutines run.
func TestSameAnswers(t *testing.T) {
	shared := some()
	var group sync.WaitGroup
	for spare := range 8 {
		group.Go(func() {
			mine := append(make([]api.Due, 0, len(shared)+spare), shared...)
			for range 200 {
				for _, l := range [][]api.Due{mine, shared} {
					put, err := due.Put(l, api.Due{At: 9, ID: 2})
					if err != api.OK || !slices.Equal(put, slices.Insert(some(), 2, api.Due{At: 9, ID: 2})) {
						t.Errorf("%v, %v", put, err)
					}
					late, rest := due.Late(put, 9)
					if !slices.Equal(late, []int{15, 0, 2, 5}) || !slices.Equal(rest, some()[3:]) {
						t.Errorf("%v, %v", late, rest)
					}
				}
			}
		})
	}
	group.Wait()
}
