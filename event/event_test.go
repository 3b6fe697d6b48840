package event_test

import (
	"slices"
	"sync"
	"testing"

	"sakia/api"
	"sakia/event"
)

const (
	most  = 1<<63 - 1
	least = -1 << 63
	last  = 1 << 40
)

// all has all threads in a line, the last one first.
func all() []int {
	return []int{15, 14, 13, 12, 11, 10, 9, 8, 7, 6, 5, 4, 3, 2, 1, 0}
}

// some has four of the threads in a line.
func some() []int {
	return []int{9, 0, 15, 3}
}

// at is an event of that epoch, for which these wait.
func at(epoch int, line ...int) api.Event {
	return api.Event{Epoch: epoch, Line: line}
}

// same tells whether two events are alike; a line without elements may be nil or not.
func same(e, f api.Event) bool {
	return e.Epoch == f.Epoch && slices.Equal(e.Line, f.Line)
}

// right has events that may be.
func right() map[string]api.Event {
	return map[string]api.Event{
		"all 0":                    {},
		"an empty line":            at(0, []int{}...),
		"at the first epoch":       at(0, some()...),
		"at the last epoch":        at(last, some()...),
		"nobody at the last epoch": at(last),
		"between":                  at(7, 5),
		"the least thread":         at(7, 0),
		"the greatest thread":      at(7, 15),
		"all threads":              at(last-1, all()...),
	}
}

// wrong has events that may not be.
func wrong() map[string]api.Event {
	return map[string]api.Event{
		"epoch below 0":             at(-1, 5, 2),
		"epoch far below 0":         at(least, 5, 2),
		"epoch above":               at(last+1, 5, 2),
		"epoch far above":           at(most, 5, 2),
		"epoch below 0, nobody":     at(-1),
		"epoch above, nobody":       at(last + 1),
		"thread below 0":            at(3, 5, -1),
		"thread above":              at(3, 16, 5),
		"thread far below 0":        at(3, least),
		"thread far above":          at(3, most),
		"one that goes round":       at(3, 1<<32+5),
		"twice":                     at(3, 1, 1),
		"twice, apart":              at(3, 1, 5, 2, 1),
		"all, and one more":         at(3, append(all(), 8)...),
		"very many":                 at(3, slices.Repeat(all(), 5000)...),
		"epoch above, thread above": at(last+1, 16),
		"epoch below 0, and twice":  at(-1, 5, 5),
	}
}

// P6.1: which events may be, and what is seen of them.
func TestCheckAndPrepare(t *testing.T) {
	for name, e := range right() {
		if !event.Check(e) || event.Prepare(e) != e.Epoch {
			t.Errorf("%s: %v: %v, %d", name, e, event.Check(e), event.Prepare(e))
		}
	}
	for name, e := range wrong() {
		if event.Check(e) || event.Prepare(e) != -1 {
			t.Errorf("%s: %v, %d", name, event.Check(e), event.Prepare(e))
		}
	}
}

// P6.1: who waits, and who does not.
func TestCommit(t *testing.T) {
	for _, c := range []struct {
		name     string
		e        api.Event
		seen, id int
		then     api.Event
		waits    bool
		err      api.Errno
	}{
		{"alone", at(3), 3, 5, at(3, 5), true, api.OK},
		{"alone, of all 0", api.Event{}, 0, 0, at(0, 0), true, api.OK},
		{"alone, of an empty line", at(3, []int{}...), 3, 15, at(3, 15), true, api.OK},
		{"behind one", at(3, 5), 3, 2, at(3, 5, 2), true, api.OK},
		{"behind some", at(3, some()...), 3, 1, at(3, 9, 0, 15, 3, 1), true, api.OK},
		{"behind all others", at(3, all()[:15]...), 3, 0, at(3, all()...), true, api.OK},
		{"at the last epoch", at(last, 5), last, 2, at(last, 5, 2), true, api.OK},

		{"it came since", at(3, 5), 2, 2, at(3, 5), false, api.OK},
		{"it came often since", at(last, 5), 0, 2, at(last, 5), false, api.OK},
		{"it comes one later", at(3, 5), 4, 2, at(3, 5), false, api.OK},
		{"seen what may not be", at(0, 5), -1, 2, at(0, 5), false, api.OK},
		{"seen far below 0", at(0, 5), least, 2, at(0, 5), false, api.OK},
		{"seen above", at(last, 5), last + 1, 2, at(last, 5), false, api.OK},
		{"seen far above", at(last, 5), most, 2, at(last, 5), false, api.OK},
		{"seen one that goes round", at(3, 5), 1<<32 + 3, 2, at(3, 5), false, api.OK},
		{"it came since, and nobody is there", at(3), 2, 2, at(3), false, api.OK},

		{"who is there", at(3, some()...), 3, 15, at(3, some()...), false, api.ErrTwice},
		{"who is first", at(3, some()...), 3, 9, at(3, some()...), false, api.ErrTwice},
		{"who is last", at(3, some()...), 3, 3, at(3, some()...), false, api.ErrTwice},
		{"all are there", at(3, all()...), 3, 7, at(3, all()...), false, api.ErrTwice},
		{"who is there, and it came since", at(3, 5), 2, 5, at(3, 5), false, api.ErrTwice},
		{"below 0", at(3, 5), 3, -1, at(3, 5), false, api.ErrNone},
		{"above", at(3, 5), 3, 16, at(3, 5), false, api.ErrNone},
		{"far below 0", at(3, 5), 3, least, at(3, 5), false, api.ErrNone},
		{"far above", at(3, 5), 3, most, at(3, 5), false, api.ErrNone},
		{"above, and it came since", at(3, 5), 2, 16, at(3, 5), false, api.ErrNone},
		{"below 0, and all are there", at(3, all()...), 3, -1, at(3, all()...), false, api.ErrNone},
	} {
		e, waits, err := event.Commit(c.e, c.seen, c.id)
		if !same(e, c.then) || waits != c.waits || err != c.err {
			t.Errorf("%s: %v, %v, %v, not %v, %v, %v", c.name, e, waits, err, c.then, c.waits, c.err)
		}
	}
}

// P6.2: a notice, for one, and for all.
func TestNotices(t *testing.T) {
	for _, c := range []struct {
		name string
		e    api.Event
		one  api.Event
		id   int
		is   bool
		all  api.Event
	}{
		{"of all 0", api.Event{}, at(1), 0, false, at(1)},
		{"nobody", at(3), at(4), 0, false, at(4)},
		{"an empty line", at(3, []int{}...), at(4), 0, false, at(4)},
		{"one", at(3, 5), at(4), 5, true, at(4)},
		{"the least thread", at(0, 0), at(1), 0, true, at(1)},
		{"the greatest thread", at(3, 15), at(4), 15, true, at(4)},
		{"two", at(3, 5, 2), at(4, 2), 5, true, at(4)},
		{"some", at(3, some()...), at(4, 0, 15, 3), 9, true, at(4)},
		{"the least one ahead", at(3, 0, 1), at(4, 1), 0, true, at(4)},
		{"all", at(3, all()...), at(4, all()[1:]...), 15, true, at(4)},
		{"ahead of the last epoch", at(last-1, 5, 2), at(last, 2), 5, true, at(last)},
		{"at the last epoch", at(last, 5, 2), at(last, 2), 5, true, at(last)},
		{"nobody, at the last epoch", at(last), at(last), 0, false, at(last)},
	} {
		if e, id, is := event.Notify(c.e); !same(e, c.one) || id != c.id || is != c.is {
			t.Errorf("%s: %v, %d, %v, not %v, %d, %v", c.name, e, id, is, c.one, c.id, c.is)
		}
		if e, told := event.NotifyAll(c.e); !same(e, c.all) || !slices.Equal(told, c.e.Line) {
			t.Errorf("%s: %v, %v, not %v, %v", c.name, e, told, c.all, c.e.Line)
		}
	}
}

// P6.2: who waits no more, though it did not come.
func TestCancel(t *testing.T) {
	for _, c := range []struct {
		name string
		e    api.Event
		id   int
		then api.Event
		is   bool
	}{
		{"the only one", at(3, 5), 5, at(3), true},
		{"the first one", at(3, some()...), 9, at(3, 0, 15, 3), true},
		{"the least one", at(3, some()...), 0, at(3, 9, 15, 3), true},
		{"the greatest one", at(3, some()...), 15, at(3, 9, 0, 3), true},
		{"the last one", at(3, some()...), 3, at(3, 9, 0, 15), true},
		{"of all", at(3, all()...), 0, at(3, all()[:15]...), true},
		{"at the first epoch", at(0, 5, 2), 2, at(0, 5), true},
		{"at the last epoch", at(last, 5, 2), 5, at(last, 2), true},

		{"of all 0", api.Event{}, 0, api.Event{}, false},
		{"of nobody", at(3), 0, at(3), false},
		{"who is not there", at(3, some()...), 5, at(3, some()...), false},
		{"a place, not a thread", at(3, some()...), 1, at(3, some()...), false},
		{"the epoch, not a thread", at(4, some()...), 4, at(4, some()...), false},
		{"below 0", at(3, some()...), -1, at(3, some()...), false},
		{"above", at(3, all()...), 16, at(3, all()...), false},
		{"far below 0", at(3, some()...), least, at(3, some()...), false},
		{"far above", at(3, some()...), most, at(3, some()...), false},
		{"one that goes round", at(3, some()...), 1<<32 + 9, at(3, some()...), false},
	} {
		if e, is := event.Cancel(c.e, c.id); !same(e, c.then) || is != c.is {
			t.Errorf("%s: %v, %v, not %v, %v", c.name, e, is, c.then, c.is)
		}
	}
}

// P6.1, P6.2, R1: an event that may not be stays as it is, whatever is asked of it.
func TestWrong(t *testing.T) {
	for name, e := range wrong() {
		for _, id := range append(slices.Clone(e.Line[:min(len(e.Line), 20)]), edges()...) {
			for _, seen := range []int{e.Epoch, 0, -1, last} {
				if f, waits, err := event.Commit(e, seen, id); !same(e, f) || waits || err != api.ErrNone {
					t.Errorf("%s: commit %d, %d: %v, %v", name, seen, id, waits, err)
				}
			}
			if f, is := event.Cancel(e, id); !same(e, f) || is {
				t.Errorf("%s: cancel %d: %v", name, id, is)
			}
		}
		if f, id, is := event.Notify(e); !same(e, f) || id != 0 || is {
			t.Errorf("%s: notify: %d, %v", name, id, is)
		}
		if f, told := event.NotifyAll(e); !same(e, f) || len(told) != 0 {
			t.Errorf("%s: notify all: %v", name, told)
		}
	}
}

// edges are threads at the edges that the chapters name, beside them, and far outside.
func edges() []int {
	return []int{least, -1, 0, 1, 14, 15, 16, most}
}

// epochs are numbers at the edges of epochs, beside them, and far outside.
func epochs() []int {
	return []int{least, -1, 0, 1, last - 1, last, last + 1, most}
}

// events goes through all events of these epochs, and lines of up to three of the edges.
func events(yield func(api.Event) bool) {
	lines := [][]int{nil}
	for from := 0; from < 1+8+8*8; from++ {
		for _, id := range edges() {
			lines = append(lines, append(slices.Clone(lines[from]), id))
		}
	}
	for _, l := range lines {
		for _, epoch := range epochs() {
			if !yield(at(epoch, l...)) {
				return
			}
		}
	}
}

// mayBe is what the chapters say of an event, each thread held against each.
func mayBe(e api.Event) bool {
	for n, id := range e.Line {
		if id < 0 || id > 15 {
			return false
		}
		for _, other := range e.Line[n+1:] {
			if id == other {
				return false
			}
		}
	}
	return 0 <= e.Epoch && e.Epoch <= 1<<40
}

// commits is what the chapter says of one more.
func commits(e api.Event, seen, id int) (api.Event, bool, api.Errno) {
	switch {
	case !mayBe(e) || id < 0 || id > 15:
		return e, false, 40
	case slices.Contains(e.Line, id):
		return e, false, 60
	case e.Epoch != seen:
		return e, false, 0
	}
	return at(e.Epoch, slices.Concat(e.Line, []int{id})...), true, 0
}

// notifies is what the chapter says of a notice for so many at most, and who is told.
func notifies(e api.Event, many int) (api.Event, []int) {
	if !mayBe(e) {
		return e, nil
	}
	many = min(many, len(e.Line))
	epoch := e.Epoch
	if epoch < 1<<40 {
		epoch++
	}
	return at(epoch, e.Line[many:]...), e.Line[:many]
}

// cancels is what the chapter says of one less.
func cancels(e api.Event, id int) (api.Event, bool) {
	n := slices.Index(e.Line, id)
	if !mayBe(e) || n < 0 {
		return e, false
	}
	return at(e.Epoch, slices.Concat(e.Line[:n], e.Line[n+1:])...), true
}

// P6.1, P6.2, R1: at all edges, together.
func TestAtTheEdges(t *testing.T) {
	good := 0
	for e := range events {
		may, seen := mayBe(e), -1
		if may {
			good++
			seen = e.Epoch
		}
		if event.Check(e) != may || event.Prepare(e) != seen {
			t.Fatalf("%v: %v, %d", e, event.Check(e), event.Prepare(e))
		}
		then, told := notifies(e, 1)
		told = append(slices.Clone(told), 0)
		if f, id, is := event.Notify(e); !same(f, then) || id != told[0] || is != (len(told) > 1) {
			t.Fatalf("%v, notify: %v, %d, %v, not %v, %v", e, f, id, is, then, told)
		}
		then, told = notifies(e, most)
		if f, who := event.NotifyAll(e); !same(f, then) || !slices.Equal(who, told) {
			t.Fatalf("%v, notify all: %v, %v, not %v, %v", e, f, who, then, told)
		}
		for _, id := range edges() {
			then, was := cancels(e, id)
			if f, is := event.Cancel(e, id); !same(f, then) || is != was {
				t.Fatalf("%v, cancel %d: %v, %v, not %v, %v", e, id, f, is, then, was)
			}
			for _, seen := range epochs() {
				then, waits, err := commits(e, seen, id)
				if f, w, x := event.Commit(e, seen, id); !same(f, then) || w != waits || x != err {
					t.Fatalf("%v, commit %d, %d: %v, %v, %v, not %v, %v, %v", e, seen, id, f, w, x, then, waits, err)
				}
			}
		}
	}
	if good != 4*(1+4+4*3+4*3*2) {
		t.Errorf("%d may be", good)
	}
}

// P6.3: who commits what was seen ahead of a notice does not wait, whoever else does, and however many notices there are.
func TestSeenAhead(t *testing.T) {
	for name, e := range right() {
		seen, id := event.Prepare(e), 12
		e, _ = event.Cancel(e, id)
		if f, waits, err := event.Commit(e, seen, id); !waits || err != api.OK || !slices.Contains(f.Line, id) {
			t.Errorf("%s: without a notice: %v, %v, %v", name, f, waits, err)
		}
		// At the last epoch a notice can't be told from none: the epoch stays.
		if e.Epoch == last {
			continue
		}
		one, _, _ := event.Notify(e)
		many, _ := event.NotifyAll(e)
		more, _ := event.NotifyAll(one)
		for _, then := range []api.Event{one, many, more} {
			f, waits, err := event.Commit(then, seen, id)
			if waits || err != api.OK || !same(f, then) {
				t.Errorf("%s: %v, %v, %v", name, f, waits, err)
			}
			if _, waits, err = event.Commit(then, event.Prepare(then), id); !waits || err != api.OK {
				t.Errorf("%s: seen anew: %v, %v", name, waits, err)
			}
		}
	}
}

// P6.3: who waits is told by the next notice, or by one for each that stands ahead.
func TestOneForEach(t *testing.T) {
	for step := 1; step < 16; step += 2 {
		e, want := at(step), []int{}
		for n := range 16 {
			want = append(want, n*step%16)
			e, _, _ = event.Commit(e, event.Prepare(e), want[n])
		}
		everybody, told := event.NotifyAll(e)
		if !slices.Equal(told, want) || !same(everybody, at(step+1)) {
			t.Errorf("%v: %v, %v", want, told, everybody)
		}
		for n, id := range want {
			then, who, is := event.Notify(e)
			if who != id || !is || then.Epoch != e.Epoch+1 {
				t.Fatalf("of %v, at %d: %v, %d, %v", want, n, then, who, is)
			}
			e = then
		}
		if then, who, is := event.Notify(e); is || who != 0 || !same(then, at(step+17)) {
			t.Errorf("%v: %v, %d, %v", want, then, who, is)
		}
	}
}

// book is an event, and beside it what each thread saw, how often it came, and how many stand ahead of each that waits.
type book struct {
	t     *testing.T
	e     api.Event
	came  int
	seen  map[int]int
	ahead map[int]int
}

// prepare lets one look.
func (b *book) prepare(id int) {
	b.seen[id] = event.Prepare(b.e)
	if b.seen[id] != b.came {
		b.t.Fatalf("%v: %d, not %d", b.e, b.seen[id], b.came)
	}
}

// commit lets one wait, which it does just if nothing came since it looked, and it is not there.
func (b *book) commit(id int) {
	b.t.Helper()
	e, waits, err := event.Commit(b.e, b.seen[id], id)
	_, there := b.ahead[id]
	if err == api.ErrTwice != there || waits != (!there && b.seen[id] == b.came) {
		b.t.Fatalf("%v, commit %d, %d: %v, %v", b.e, b.seen[id], id, waits, err)
	}
	if waits {
		b.ahead[id] = len(b.ahead)
	}
	b.e = e
}

// leaves takes one out: all behind come one nearer.
func (b *book) leaves(id int) {
	was := b.ahead[id]
	delete(b.ahead, id)
	for other, n := range b.ahead {
		if n > was {
			b.ahead[other] = n - 1
		}
	}
}

// cancel takes one out, which may be done just if it waits.
func (b *book) cancel(id int) {
	b.t.Helper()
	e, is := event.Cancel(b.e, id)
	if _, there := b.ahead[id]; is != there {
		b.t.Fatalf("%v, cancel %d: %v", b.e, id, is)
	} else if there {
		b.leaves(id)
	}
	b.e = e
}

// notify is a notice: who is told is the one ahead of whom nobody stands.
func (b *book) notify() {
	b.t.Helper()
	e, id, is := event.Notify(b.e)
	if n, there := b.ahead[id]; is != (len(b.ahead) > 0) || is && (!there || n != 0) {
		b.t.Fatalf("%v, notify: %d, %v", b.e, id, is)
	}
	if is {
		b.leaves(id)
	}
	b.e, b.came = e, b.came+1
}

// notifyAll is a notice for all: each stands at its place.
func (b *book) notifyAll() {
	b.t.Helper()
	e, told := event.NotifyAll(b.e)
	if len(told) != len(b.ahead) {
		b.t.Fatalf("%v, notify all: %v", b.e, told)
	}
	for n, id := range told {
		if place, there := b.ahead[id]; !there || place != n {
			b.t.Fatalf("%v, notify all: %v", b.e, told)
		}
	}
	clear(b.ahead)
	b.e, b.came = e, b.came+1
}

// agrees checks that all that wait stand in their places, at the epoch that came.
func (b *book) agrees() {
	b.t.Helper()
	if !event.Check(b.e) || b.e.Epoch != b.came || len(b.e.Line) != len(b.ahead) {
		b.t.Fatalf("%v, not %d, %v", b.e, b.came, b.ahead)
	}
	for id, n := range b.ahead {
		if b.e.Line[n] != id {
			b.t.Fatalf("%v, not %v", b.e, b.ahead)
		}
	}
}

// P6.3: of many changes, in orders that look like none.
func TestManyChanges(t *testing.T) {
	for seed := range uint32(200) {
		b := book{t, api.Event{}, 0, map[int]int{}, map[int]int{}}
		pick := func(below uint32) int {
			seed = seed*1664525 + 1013904223
			return int(seed >> 8 % below)
		}
		for range 400 {
			switch id := pick(api.MaxThreads); pick(16) {
			case 0, 1, 2, 3, 4:
				b.prepare(id)
			case 5, 6, 7, 8, 9, 10, 11:
				b.commit(id)
			case 12, 13:
				b.cancel(id)
			case 14:
				b.notify()
			case 15:
				if pick(4) == 0 {
					b.notifyAll()
				}
			}
			b.agrees()
		}
	}
}

// apart checks that an answer, its spare room included, shares nothing with another list.
func apart(t *testing.T, l, got []int) {
	t.Helper()
	l, got = l[:cap(l)], got[:cap(got)]
	was, keep := slices.Clone(l), slices.Clone(got)
	for n := range l {
		l[n] = -1
	}
	if !slices.Equal(got, keep) {
		t.Fatalf("of %v: %v, not %v", was, got, keep)
	}
	copy(l, was)
	for n := range got {
		got[n] = -2
	}
	if !slices.Equal(l, was) {
		t.Fatalf("%v, not %v", l, was)
	}
	copy(got, keep)
}

// R3: what is handed in stays as it was, its spare room included, and is not kept; no two lists of an answer share any.
func TestHandedIn(t *testing.T) {
	was := []int{9, 0, 15, 3, 9, 16, 70, 71}
	for n := range 7 {
		for _, epoch := range []int{3, last, -1} {
			for _, id := range append(edges(), was...) {
				l := slices.Clone(was)
				e := at(epoch, l[:n]...)
				more, _, _ := event.Commit(e, 3, id)
				none, _, _ := event.Commit(e, 2, id)
				one, _, _ := event.Notify(e)
				rest, told := event.NotifyAll(e)
				less, _ := event.Cancel(e, id)
				event.Check(e)
				event.Prepare(e)
				if !slices.Equal(l, was) {
					t.Fatalf("of %d, by %d: %v", n, id, l)
				}
				for _, got := range [][]int{more.Line, none.Line, one.Line, rest.Line, told, less.Line} {
					apart(t, l, got)
				}
				apart(t, rest.Line, told)
			}
		}
	}
}

// R3: two answers share nothing.
func TestTwoAnswers(t *testing.T) {
	base, _, _ := event.Commit(at(3, 4, 5), 3, 6)
	a, _, _ := event.Commit(base, 3, 7)
	b, _, _ := event.Commit(base, 3, 8)
	if !same(a, at(3, 4, 5, 6, 7)) || !same(b, at(3, 4, 5, 6, 8)) {
		t.Errorf("%v, %v", a, b)
	}
	c, _, _ := event.Notify(a)
	d, _, _ := event.Notify(a)
	f, _ := event.Cancel(a, 4)
	_, told := event.NotifyAll(a)
	_, again := event.NotifyAll(a)
	c.Line[0], told[0] = -1, -1
	if !same(d, at(4, 5, 6, 7)) || !same(f, at(3, 5, 6, 7)) || !slices.Equal(again, []int{4, 5, 6, 7}) {
		t.Errorf("%v, %v, %v", d, f, again)
	}
}

// R4: the same is answered of the same, whatever lies behind a list, and however goroutines run.
func TestSameAnswers(t *testing.T) {
	shared := some()
	var group sync.WaitGroup
	for spare := range 8 {
		group.Go(func() {
			mine := append(make([]int, 0, len(shared)+spare), shared...)
			for range 200 {
				for _, l := range [][]int{mine, shared} {
					e := at(3, l...)
					if f, waits, err := event.Commit(e, 3, 2); !waits || err != api.OK || !same(f, at(3, 9, 0, 15, 3, 2)) {
						t.Errorf("%v, %v, %v", f, waits, err)
					}
					if f, id, is := event.Notify(e); id != 9 || !is || !same(f, at(4, 0, 15, 3)) {
						t.Errorf("%v, %d, %v", f, id, is)
					}
					if f, told := event.NotifyAll(e); !slices.Equal(told, some()) || !same(f, at(4)) {
						t.Errorf("%v, %v", f, told)
					}
					if f, is := event.Cancel(e, 0); !is || !same(f, at(3, 9, 15, 3)) {
						t.Errorf("%v, %v", f, is)
					}
				}
			}
		})
	}
	group.Wait()
}

// The chapter's example: who saw it ahead of a notice does not wait for it.
func TestExample(t *testing.T) {
	e := at(3)
	seen := event.Prepare(e)
	e, _, _ = event.Notify(e)
	e, waits, err := event.Commit(e, seen, 5)
	if waits || err != api.OK || !same(e, at(4)) {
		t.Errorf("%v, %v, %v", e, waits, err)
	}
}
