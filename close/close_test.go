package close_test

import (
	"fmt"
	"slices"
	"sync"
	"testing"

	"sakia/api"
	"sakia/close"
	"sakia/fabric"
	"sakia/recv"
	"sakia/send"
)

const (
	most  = 1<<63 - 1
	least = -1 << 63
	last  = 1 << 40
)

// ids are numbers of threads, beside them, and far outside.
var ids = []int{least, -1 << 41, -2, -1, 0, 1, 2, 3, 4, 15, 16, 1 << 32, 1<<32 + 1, 1<<32 + 2, most}

// change makes of a state another one.
type change struct {
	name string
	by   func(s *api.State)
}

// fresh is a fabric of room 2, empty, of three threads, of which thread 0 closes, and is at that step.
func fresh(kind, pc int) api.State {
	s := api.State{
		Config:  api.Config{Log: 1, Threads: 3, Wait: api.Parking},
		Slots:   []api.Slot{{Val: 50}, {Stamp: 1, Val: 60}},
		Threads: make([]api.Thread, 3),
	}
	s.Threads[0] = api.Thread{Status: api.TRuns, Kind: kind, Val: 7, Pc: pc}
	return s
}

// lived is a fabric of room 4, three of it taken, in which all lists have something, and thread 2 drains.
func lived() api.State {
	return api.State{
		Config: api.Config{Log: 2, Threads: 5, Wait: api.Phased, Spin: 2, Yield: 1},
		Word:   api.Word{Head: 6, Tail: 9},
		Slots:  []api.Slot{{Stamp: 8, Val: 80}, {Stamp: 9, Val: 90}, {Stamp: 6, Val: 60}, {Stamp: 7, Val: 70}},
		Sends:  []int{1, 3}, Recvs: []int{4, 0},
		Full: api.Event{Epoch: 5, Line: []int{3, 1}}, Empty: api.Event{Epoch: 3, Line: []int{0, 4}},
		Now: 12,
		Threads: []api.Thread{
			{Status: api.TParked, Kind: api.KRecvUntil, Val: 100, Until: 20, Pc: 2, Reg: 5, Seen: 3},
			{Status: api.TParked, Kind: api.KSend, Val: 101, Pc: 2, Seen: 5},
			{Status: api.TRuns, Kind: api.KDrain, Val: 102, Pc: 0, Reg: 6, Seen: 3, Tries: 1},
			{Status: api.TParked, Kind: api.KSendUntil, Val: 103, Until: 30, Pc: 2, Seen: 5},
			{Status: api.TParked, Kind: api.KRecv, Val: 104, Pc: 2, Seen: 3, Result: api.REmpty, Got: 9},
		},
		Log: []api.Entry{{Thread: 3, Kind: api.KTrySend, Val: 103, Result: api.ROK, Got: 50}},
	}
}

// ended is a fabric at its upper bounds, of which thread 1 halts.
func ended() api.State {
	return api.State{
		Config: api.Config{Log: 1, Threads: 2, Policy: api.DropOld, Wait: api.Yielding},
		Word:   api.Word{Head: last - 2, Tail: last, Mode: api.Draining},
		Slots:  []api.Slot{{Stamp: last - 2, Val: most}, {Stamp: last - 1, Val: least}},
		Full:   api.Event{Epoch: last},
		Empty:  api.Event{Epoch: last, Line: []int{0}},
		Now:    last,
		Threads: []api.Thread{
			{Status: api.TParked, Kind: api.KRecv, Pc: 2, Seen: last},
			{Status: api.TRuns, Kind: api.KHalt, Val: most, Pc: 2, Reg: last, Seen: last, Tries: last, Result: api.RHalted, Got: most},
		},
		Log: []api.Entry{{Thread: -1, Kind: least, Val: most, Result: 99, Got: most}},
	}
}

// apart is a state that shares no memory with another one.
func apart(s api.State) api.State {
	s.Slots, s.Threads, s.Log = slices.Clone(s.Slots), slices.Clone(s.Threads), slices.Clone(s.Log)
	s.Sends, s.Recvs = slices.Clone(s.Sends), slices.Clone(s.Recvs)
	s.Full.Line, s.Empty.Line = slices.Clone(s.Full.Line), slices.Clone(s.Empty.Line)
	return s
}

// with is a state that is changed.
func with(s api.State, by ...func(s *api.State)) api.State {
	s = apart(s)
	for _, f := range by {
		f(&s)
	}
	return s
}

// same tells whether two states have the same in them.
func same(a, b api.State) bool {
	return a.Config == b.Config && a.Word == b.Word && a.Now == b.Now &&
		slices.Equal(a.Slots, b.Slots) && slices.Equal(a.Threads, b.Threads) && slices.Equal(a.Log, b.Log) &&
		slices.Equal(a.Sends, b.Sends) && slices.Equal(a.Recvs, b.Recvs) && alike(a.Full, b.Full) && alike(a.Empty, b.Empty)
}

// alike tells whether two events have the same in them.
func alike(a, b api.Event) bool {
	return a.Epoch == b.Epoch && slices.Equal(a.Line, b.Line)
}

// closes is what the chapter says of which threads close.
func closes(s api.State, id int) bool {
	if !fabric.Check(s) || id < 0 || id >= len(s.Threads) {
		return false
	}
	kind := s.Threads[id].Kind
	return s.Threads[id].Status == 1 && (kind == 7 || kind == 8)
}

// notified is what the chapter says of an event that came, for all that wait.
func notified(s *api.State, e *api.Event) {
	e.Epoch = min(e.Epoch+1, last)
	for _, id := range e.Line {
		if x := &s.Threads[id]; x.Status == 2 {
			x.Status = 1
		}
	}
	e.Line = nil
}

// step is what the chapter says of a step.
func step(s api.State, id int) api.State {
	if !closes(s, id) {
		return s
	}
	s = apart(s)
	t := &s.Threads[id]
	switch t.Pc {
	case 0:
		s.Word.Mode = max(s.Word.Mode, t.Kind-6)
		s.Log = append(s.Log, api.Entry{Thread: id, Kind: t.Kind, Val: t.Val, Result: 1})
		t.Result, t.Got, t.Pc = 1, 0, 1
	case 1:
		notified(&s, &s.Full)
		t.Pc = 2
	default:
		notified(&s, &s.Empty)
		*t = api.Thread{Kind: t.Kind, Val: t.Val, Until: t.Until, Result: t.Result, Got: t.Got}
	}
	return s
}

// changes has what may be done to states, such that a step of a thread does something else.
func changes(id int) []change {
	of := func(f func(t *api.Thread)) func(s *api.State) {
		return func(s *api.State) { f(&s.Threads[id]) }
	}
	l := []change{
		{"nothing", func(s *api.State) {}},
		{"empty", func(s *api.State) { s.Word.Head = s.Word.Tail }},
		{"one is there", func(s *api.State) { s.Word.Tail = s.Word.Head + 1 }},
		{"full", func(s *api.State) { s.Word.Tail = s.Word.Head + len(s.Slots) }},
		{"at the end, empty", func(s *api.State) { s.Word.Head, s.Word.Tail = last, last }},
		{"open", func(s *api.State) { s.Word.Mode = api.Open }},
		{"draining", func(s *api.State) { s.Word.Mode = api.Draining }},
		{"halted", func(s *api.State) { s.Word.Mode = api.Halted }},
		{"no such mode", func(s *api.State) { s.Word.Mode = 3 }},
		{"a mode below", func(s *api.State) { s.Word.Mode = -1 }},
		{"more than full", func(s *api.State) { s.Word.Tail = s.Word.Head + len(s.Slots) + 1 }},
		{"slots turned", func(s *api.State) { slices.Reverse(s.Slots) }},
		{"a slot less", func(s *api.State) { s.Slots = s.Slots[1:] }},
		{"nobody stands", func(s *api.State) { s.Sends, s.Recvs = nil, nil }},
		{"it stands first", func(s *api.State) { s.Sends, s.Recvs = []int{id, id ^ 1}, []int{id, id ^ 1} }},
		{"it stands second", func(s *api.State) { s.Sends, s.Recvs = []int{id ^ 1, id}, []int{id ^ 1, id} }},
		{"it waits for room", func(s *api.State) { s.Full.Line = []int{id ^ 1, id} }},
		{"it alone waits for room", func(s *api.State) { s.Full.Line = []int{id} }},
		{"another one waits for room", func(s *api.State) { s.Full.Line = []int{id ^ 1} }},
		{"nobody waits for room", func(s *api.State) { s.Full.Line = nil }},
		{"it waits for something", func(s *api.State) { s.Empty.Line = []int{id, id ^ 1} }},
		{"it alone waits for something", func(s *api.State) { s.Empty.Line = []int{id} }},
		{"another one waits for something", func(s *api.State) { s.Empty.Line = []int{id ^ 1} }},
		{"nobody waits for something", func(s *api.State) { s.Empty.Line = nil }},
		{"none that is a thread waits", func(s *api.State) { s.Empty.Line = []int{16} }},
		{"events that never came", func(s *api.State) { s.Full.Epoch, s.Empty.Epoch = 0, 0 }},
		{"events that came most often, but once", func(s *api.State) { s.Full.Epoch, s.Empty.Epoch = last-1, last-1 }},
		{"events that came most often", func(s *api.State) { s.Full.Epoch, s.Empty.Epoch = last, last }},
		{"an event that came too often", func(s *api.State) { s.Full.Epoch = last + 1 }},
		{"nothing was told", func(s *api.State) { s.Log = nil }},
		{"no time", func(s *api.State) { s.Now = -1 }},
		{"thread 0 alone receives", func(s *api.State) { s.Config.Single = true }},
		{"another one is idle", func(s *api.State) { s.Threads[id^1] = api.Thread{Kind: api.KHalt, Result: api.ROK} }},
		{"another one runs", func(s *api.State) { s.Threads[id^1].Status, s.Threads[id^1].Kind = api.TRuns, api.KSendUntil }},
		{"another one is parked", func(s *api.State) { s.Threads[id^1].Status, s.Threads[id^1].Kind = api.TParked, api.KSendUntil }},
		{"another one is parked, and late", func(s *api.State) {
			s.Threads[id^1] = api.Thread{Status: api.TParked, Kind: api.KRecvUntil, Pc: 11, Late: true, Until: 5, Tries: 4}
		}},
		{"another one that closes is parked", func(s *api.State) { s.Threads[id^1] = api.Thread{Status: api.TParked, Kind: api.KHalt} }},
		{"it drains", of(func(t *api.Thread) { t.Kind = api.KDrain })},
		{"it halts", of(func(t *api.Thread) { t.Kind = api.KHalt })},
		{"it sends", of(func(t *api.Thread) { t.Kind = api.KSend })},
		{"it receives", of(func(t *api.Thread) { t.Kind = api.KRecv })},
		{"it lets go", of(func(t *api.Thread) { t.Kind = api.KEvict })},
		{"it does nothing", of(func(t *api.Thread) { t.Kind = 0 })},
		{"it waits until", of(func(t *api.Thread) { t.Until = 9 })},
		{"it is late", of(func(t *api.Thread) { t.Late = true })},
		{"it is parked", of(func(t *api.Thread) { t.Status = api.TParked })},
		{"it is idle", of(func(t *api.Thread) { *t = api.Thread{Kind: t.Kind, Val: t.Val, Until: t.Until} })},
		{"no such status", of(func(t *api.Thread) { t.Status = 3 })},
		{"it saw nothing", of(func(t *api.Thread) { t.Seen = -1 })},
		{"it tried", of(func(t *api.Thread) { t.Reg, t.Tries = 3, 4 })},
		{"it got something", of(func(t *api.Thread) { t.Result, t.Got = api.RTimeout, 44 })},
		{"it got nothing", of(func(t *api.Thread) { t.Result, t.Got = api.RNone, 0 })},
		{"it has the least value", of(func(t *api.Thread) { t.Val = least })},
		{"a result that may not be", of(func(t *api.Thread) { t.Result = 8 })},
	}
	for _, c := range []api.Config{{}, {Wait: api.Yielding}, {Wait: api.Phased, Spin: 1, Yield: 8}, {Wait: api.Parking}, {Spin: 1}} {
		for policy := range 3 {
			l = append(l, change{"Policy, and Wait", func(s *api.State) {
				c.Log, c.Threads, c.Policy = s.Config.Log, s.Config.Threads, policy
				s.Config = c
			}})
		}
	}
	return l
}

// sorts goes through states of all sorts: all that two changes make, of each root, with the closer at each step there is, and beside them.
func sorts(yield func(s api.State, id int, names ...string)) {
	for _, root := range []struct {
		s  api.State
		id int
	}{{fresh(api.KDrain, 1), 0}, {lived(), 2}, {ended(), 1}} {
		l := changes(root.id)
		for _, a := range l {
			for _, b := range l {
				s := with(root.s, a.by, b.by)
				for pc := -1; pc < 13; pc++ {
					if s.Threads[root.id].Status != api.TIdle {
						s.Threads[root.id].Pc = pc
					}
					yield(s, root.id, a.name, b.name)
				}
			}
		}
	}
}

// P16.1: each step, as the words of the chapter say it, and P16.4: what may be stays so.
func TestStepAsTheWordsSay(t *testing.T) {
	closed, at := 0, [12]int{}
	sorts(func(s api.State, id int, names ...string) {
		x, want := close.Step(s, id), step(s, id)
		if !same(x, want) {
			t.Fatalf("%v: Step(%+v, %d) = %+v, not %+v", names, s, id, x, want)
		}
		if fabric.Check(x) != fabric.Check(s) {
			t.Fatalf("%v: %+v, of %+v, may not be", names, x, s)
		}
		if closes(s, id) {
			closed++
			at[s.Threads[id].Pc]++
		}
	})
	if closed < 50_000 || slices.Min(at[:]) < 4_000 {
		t.Errorf("only %d closed, %v", closed, at)
	}
}

// shared counts what threads share that two states differ in.
func shared(a, b api.State) int {
	many := 0
	for _, differs := range []bool{a.Word != b.Word, !slices.Equal(a.Sends, b.Sends), !slices.Equal(a.Recvs, b.Recvs), !alike(a.Full, b.Full), !alike(a.Empty, b.Empty)} {
		if differs {
			many++
		}
	}
	for n := range a.Slots {
		if a.Slots[n] != b.Slots[n] {
			many++
		}
	}
	return many
}

// W4: no step changes more than one thing; what is not the closer's stays, but for whom it wakes.
func TestOneThing(t *testing.T) {
	sorts(func(s api.State, id int, names ...string) {
		if !closes(s, id) {
			return
		}
		x, pc := close.Step(s, id), s.Threads[id].Pc
		if n := shared(s, x); n > 1 {
			t.Fatalf("%v: %d things: %+v, of %+v", names, n, x, s)
		}
		if x.Config != s.Config || x.Now != s.Now || !slices.Equal(x.Sends, s.Sends) || !slices.Equal(x.Recvs, s.Recvs) || !slices.Equal(x.Slots, s.Slots) {
			t.Fatalf("%v: %+v, of %+v", names, x, s)
		}
		if x.Word.Head != s.Word.Head || x.Word.Tail != s.Word.Tail || x.Word.Mode < s.Word.Mode || pc > 0 && x.Word != s.Word {
			t.Fatalf("%v: %+v, of %+v", names, x.Word, s.Word)
		}
		told := len(x.Log) - len(s.Log)
		if (told == 1) != (pc == 0) || told < 0 || told > 1 || !slices.Equal(x.Log[:len(s.Log)], s.Log) {
			t.Fatalf("%v: told is %+v, of %+v", names, x.Log, s.Log)
		}
		line := [][]int{nil, s.Full.Line, s.Empty.Line}[min(pc, 2)]
		for n, was := range s.Threads {
			if slices.Contains(line, n) && was.Status == api.TParked {
				was.Status = api.TRuns
			}
			if n != id && x.Threads[n] != was {
				t.Fatalf("%v: thread %d is %+v, of %+v", names, n, x.Threads[n], s.Threads[n])
			}
		}
	})
}

// P16.1: each step, of thread 0, what becomes of it, and of what threads share.
func TestSteps(t *testing.T) {
	is := func(f func(t *api.Thread)) func(s *api.State) { return func(s *api.State) { f(&s.Threads[0]) } }
	told := func(kind int) func(s *api.State) {
		return func(s *api.State) {
			s.Log = append(s.Log, api.Entry{Kind: kind, Val: 7, Result: api.ROK})
			s.Threads[0].Result, s.Threads[0].Got, s.Threads[0].Pc = api.ROK, 0, 1
		}
	}
	pc := func(n int) func(s *api.State) { return is(func(t *api.Thread) { t.Pc = n }) }
	got := is(func(t *api.Thread) { t.Reg, t.Seen, t.Tries, t.Result, t.Got = 3, 4, 5, 6, 8 })
	done := is(func(t *api.Thread) {
		*t = api.Thread{Kind: t.Kind, Val: t.Val, Until: t.Until, Result: t.Result, Got: t.Got}
	})
	word := func(head, tail int) func(s *api.State) {
		return func(s *api.State) { s.Word.Head, s.Word.Tail = head, tail }
	}
	mode := func(n int) func(s *api.State) { return func(s *api.State) { s.Word.Mode = n } }
	full := func(epoch int, l ...int) func(s *api.State) {
		return func(s *api.State) { s.Full = api.Event{Epoch: epoch, Line: l} }
	}
	empty := func(epoch int, l ...int) func(s *api.State) {
		return func(s *api.State) { s.Empty = api.Event{Epoch: epoch, Line: l} }
	}
	status := func(a, b int) func(s *api.State) {
		return func(s *api.State) {
			s.Threads[1] = api.Thread{Status: a, Kind: api.KSend, Val: 8, Pc: 2, Seen: 3}
			s.Threads[2] = api.Thread{Status: b, Kind: api.KRecvUntil, Until: 3, Pc: 2, Late: true, Got: 5}
		}
	}
	parked, woken := status(api.TParked, api.TParked), status(api.TRuns, api.TRuns)
	second := status(api.TParked, api.TRuns)
	all := func(l ...func(s *api.State)) []func(s *api.State) { return l }
	for _, c := range []struct {
		name      string
		kind, pc  int
		from, has []func(s *api.State)
	}{
		{"drains", api.KDrain, 0, nil, all(mode(1), told(7))},
		{"halts", api.KHalt, 0, nil, all(mode(2), told(8))},
		{"drains, with something there", api.KDrain, 0, all(word(4, 6)), all(mode(1), told(7))},
		{"halts, with something there", api.KHalt, 0, all(word(5, 6)), all(mode(2), told(8))},
		{"halts at the end", api.KHalt, 0, all(word(last, last)), all(mode(2), told(8))},
		{"drains what is drained", api.KDrain, 0, all(mode(1)), all(told(7))},
		{"drains what is halted", api.KDrain, 0, all(mode(2)), all(told(7))},
		{"halts what is drained", api.KHalt, 0, all(mode(1)), all(mode(2), told(8))},
		{"halts what is halted", api.KHalt, 0, all(mode(2)), all(told(8))},
		{"closes, and wakes nobody yet", api.KDrain, 0, all(parked, full(3, 1), empty(4, 2)), all(mode(1), told(7))},
		{"closes, and what it got, and counted", api.KHalt, 0, all(got), all(mode(2), told(8))},
		{"closes, behind what was told", api.KDrain, 0, all(func(s *api.State) { s.Log = []api.Entry{{Thread: 2, Kind: 8, Result: 1}} }), all(mode(1), told(7))},

		{"tells nobody that room came", api.KDrain, 1, nil, all(full(1), pc(2))},
		{"tells nobody, though others are parked", api.KHalt, 1, all(parked, full(3)), all(full(4), pc(2))},
		{"tells none of those that wait for something", api.KDrain, 1, all(parked, empty(4, 1, 2)), all(full(1), pc(2))},
		{"wakes one that waits for room", api.KDrain, 1, all(parked, full(3, 2)), all(full(4), second, pc(2))},
		{"wakes all that wait for room", api.KHalt, 1, all(parked, full(3, 2, 1), empty(9)), all(full(4), woken, pc(2))},
		{"wakes one, the other one runs", api.KHalt, 1, all(status(api.TRuns, api.TParked), full(0, 1, 2)), all(full(1), woken, pc(2))},
		{"wakes one behind itself", api.KDrain, 1, all(parked, full(3, 0, 2)), all(full(4), second, pc(2))},
		{"tells those of room that are idle", api.KDrain, 1, all(full(0, 1, 2)), all(full(1), pc(2))},
		{"tells itself of room", api.KHalt, 1, all(full(0, 0)), all(full(1), pc(2))},
		{"room came nearly most often", api.KDrain, 1, all(parked, full(last-1, 1, 2)), all(full(last), woken, pc(2))},
		{"room came most often", api.KDrain, 1, all(parked, full(last, 1, 2)), all(full(last), woken, pc(2))},
		{"tells of room, though it is open, and what it got stays", api.KDrain, 1, all(got, word(0, 2)), all(full(1), pc(2))},

		{"tells nobody that something came", api.KDrain, 2, nil, all(empty(1), done)},
		{"tells nobody of something, though others are parked", api.KHalt, 2, all(parked, empty(3)), all(empty(4), done)},
		{"tells none of those that wait for room", api.KDrain, 2, all(parked, full(4, 1, 2)), all(empty(1), done)},
		{"wakes one that waits for something", api.KDrain, 2, all(parked, empty(3, 2)), all(empty(4), second, done)},
		{"wakes all that wait for something", api.KHalt, 2, all(parked, empty(3, 2, 1), full(9)), all(empty(4), woken, done)},
		{"wakes one behind itself, and ends", api.KHalt, 2, all(parked, empty(3, 0, 2)), all(empty(4), second, done)},
		{"tells those of something that are idle", api.KDrain, 2, all(empty(0, 1, 2)), all(empty(1), done)},
		{"tells itself of something, and ends", api.KDrain, 2, all(empty(0, 0)), all(empty(1), done)},
		{"something came nearly most often", api.KHalt, 2, all(parked, empty(last-1, 1, 2)), all(empty(last), woken, done)},
		{"something came most often", api.KHalt, 2, all(parked, empty(last, 1, 2)), all(empty(last), woken, done)},
		{"ends, and what it got stays", api.KDrain, 2, all(got), all(empty(1), done)},
		{"ends from the step behind", api.KDrain, 3, all(parked, empty(3, 1, 2)), all(empty(4), woken, done)},
		{"ends from the midst", api.KHalt, 7, all(got, parked, empty(3, 2)), all(empty(4), second, done)},
		{"ends from the last step", api.KHalt, 11, all(parked, empty(3, 1, 2), full(3, 1)), all(empty(4), woken, done)},
		{"ends where it stands still", api.KDrain, 9, all(func(s *api.State) { s.Sends, s.Recvs = []int{0}, []int{1, 0} }), all(empty(1), done)},
	} {
		s := with(fresh(c.kind, c.pc), c.from...)
		if !fabric.Check(s) {
			t.Errorf("%s: %+v may not be", c.name, s)
		}
		want := with(s, c.has...)
		if x := close.Step(s, 0); !same(x, want) {
			t.Errorf("%s: %+v, not %+v", c.name, x, want)
		}
		if x, n := close.Steps(s, 0, 1); n != 1 || !same(x, want) {
			t.Errorf("%s, as one of some: %+v, %d", c.name, x, n)
		}
	}
}

// P16.1, P16.2, R1: who does not close does nothing, whatever it is.
func TestOthers(t *testing.T) {
	stays := func(name string, s api.State, id int) {
		t.Helper()
		if x := close.Step(s, id); !same(x, s) {
			t.Errorf("%s: Step of %d: %+v, of %+v", name, id, x, s)
		}
		for _, many := range []int{least, 0, 1, 5, most} {
			if x, n := close.Steps(s, id, many); n != 0 || !same(x, s) {
				t.Errorf("%s: Steps of %d, %d: %+v, %d, of %+v", name, id, many, x, n, s)
			}
		}
	}
	for _, id := range ids {
		if id != 2 {
			stays("another one closes", lived(), id)
		}
	}
	for _, c := range []change{
		{"it is idle", func(s *api.State) { s.Threads[2] = api.Thread{Kind: api.KDrain} }},
		{"it did nothing yet", func(s *api.State) { s.Threads[2] = api.Thread{} }},
		{"it is parked", func(s *api.State) { s.Threads[2].Status = api.TParked }},
		{"it sends", func(s *api.State) { s.Threads[2].Kind = api.KSend }},
		{"it tries to send", func(s *api.State) { s.Threads[2].Kind = api.KTrySend }},
		{"it sends until", func(s *api.State) { s.Threads[2].Kind = api.KSendUntil }},
		{"it receives", func(s *api.State) { s.Threads[2].Kind = api.KRecv }},
		{"it tries to receive", func(s *api.State) { s.Threads[2].Kind = api.KTryRecv }},
		{"it receives until", func(s *api.State) { s.Threads[2].Kind = api.KRecvUntil }},
		{"it lets go", func(s *api.State) { s.Threads[2].Kind = api.KEvict }},
		{"it does nothing, and runs", func(s *api.State) { s.Threads[2].Kind = 0 }},
		{"no such kind", func(s *api.State) { s.Threads[2].Kind = 1<<32 + 7 }},
		{"no such status", func(s *api.State) { s.Threads[2].Status = 3 }},
		{"a status below", func(s *api.State) { s.Threads[2].Status = -1 }},
		{"a step below", func(s *api.State) { s.Threads[2].Pc = -1 }},
		{"a step above", func(s *api.State) { s.Threads[2].Pc = 12 }},
		{"a step far above", func(s *api.State) { s.Threads[2].Pc = most }},
		{"a position above", func(s *api.State) { s.Threads[2].Reg = last + 1 }},
		{"a time, of what is not timed", func(s *api.State) { s.Threads[2].Until = 9 }},
		{"late, though there is no time", func(s *api.State) { s.Threads[2].Late = true }},
		{"no configuration", func(s *api.State) { s.Config = api.Config{} }},
		{"no slots", func(s *api.State) { s.Slots = nil }},
		{"slots of another room", func(s *api.State) { s.Slots = s.Slots[:2] }},
		{"no threads", func(s *api.State) { s.Threads = nil }},
		{"a thread less", func(s *api.State) { s.Threads = s.Threads[:4] }},
		{"another one may not be", func(s *api.State) { s.Threads[3].Kind = 77 }},
		{"one waits twice", func(s *api.State) { s.Full.Line = []int{1, 1} }},
		{"none that is a thread waits for room", func(s *api.State) { s.Full.Line = []int{5} }},
		{"none that is a thread waits for something", func(s *api.State) { s.Empty.Line = []int{-1} }},
		{"room came too often", func(s *api.State) { s.Full.Epoch = last + 1 }},
		{"something came less than never", func(s *api.State) { s.Empty.Epoch = -1 }},
		{"far behind all time", func(s *api.State) { s.Now = most }},
		{"no such mode", func(s *api.State) { s.Word.Mode = -1 }},
		{"a word that may not be", func(s *api.State) { s.Word.Tail = most }},
		{"nothing at all", func(s *api.State) { *s = api.State{} }},
	} {
		for _, id := range []int{-1, 0, 2, 5} {
			stays(c.name, with(lived(), c.by), id)
		}
	}
}

// P16.2: so many steps, as long as it closes.
func TestHowMany(t *testing.T) {
	for _, kind := range []int{api.KDrain, api.KHalt} {
		for _, c := range []struct {
			name           string
			pc, many, want int
		}{
			{"the least", 0, least, 0},
			{"below 0", 0, -1, 0},
			{"none", 0, 0, 0},
			{"one", 0, 1, 1},
			{"all but the last", 0, 2, 2},
			{"all", 0, 3, 3},
			{"more than all", 0, 4, 3},
			{"1000", 0, 1000, 3},
			{"the greatest", 0, most, 3},
			{"from the second on, one", 1, 1, 1},
			{"from the second on", 1, most, 2},
			{"from the third on", 2, most, 1},
			{"from behind", 3, most, 1},
			{"from the last", 11, 2, 1},
			{"from the last, none", 11, 0, 0},
		} {
			s := with(lived(), func(s *api.State) { s.Threads[2].Kind, s.Threads[2].Pc = kind, c.pc })
			x, n := close.Steps(s, 2, c.many)
			want := s
			for range c.want {
				want = step(want, 2)
			}
			if n != c.want || !same(x, want) {
				t.Errorf("%s: %+v, %d, not %+v, %d", c.name, x, n, want, c.want)
			}
		}
	}
}

// P16.2: of states of all sorts, the same as one step after the other.
func TestHowManyAsTheWordsSay(t *testing.T) {
	turn := 0
	sorts(func(s api.State, id int, names ...string) {
		// A part of them will do, since each is gone through more than once.
		if turn++; turn%5 != 0 {
			return
		}
		many := []int{-1, 0, 1, 2, 3, 4, most}[turn/5%7]
		want, often := s, 0
		for often < many && closes(want, id) {
			want, often = step(want, id), often+1
		}
		if x, n := close.Steps(s, id, many); n != often || !same(x, want) {
			t.Fatalf("%v: Steps(%+v, %d, %d) = %+v, %d, not %+v, %d", names, s, id, many, x, n, want, often)
		}
	})
}

// P16.2: the mode that a kind leads to, and Open of all others.
func TestMode(t *testing.T) {
	wrong := []int{least, -last, -8, -7, -1, 12, 13, 16, 1 << 32, 1<<32 + 7, 1<<32 + 8, last, most}
	for kind := range 12 {
		wrong = append(wrong, kind)
	}
	for _, kind := range wrong {
		if want := map[int]int{7: 1, 8: 2}[kind]; close.Mode(kind) != want {
			t.Errorf("Mode(%d) = %d", kind, close.Mode(kind))
		}
	}
}

// P16.3: how far it is to both notices, and 0 of all other steps.
func TestNear(t *testing.T) {
	steps := []int{least, -last, -12, -2, -1, 12, 13, 16, 1 << 32, 1<<32 + 1, 1<<32 + 2, last, most}
	for pc := range 12 {
		steps = append(steps, pc)
	}
	for _, pc := range steps {
		full, empty := close.Near(pc)
		if want := map[int][2]int{1: {1, 2}, 2: {0, 1}}[pc]; want != [2]int{full, empty} {
			t.Errorf("Near(%d) = %d, %d", pc, full, empty)
		}
	}
}

// P16.3: who has closed is as near to each notice as is said.
func TestNearOfSteps(t *testing.T) {
	for _, kind := range []int{api.KDrain, api.KHalt} {
		s := close.Step(fresh(kind, 0), 0)
		for n := range 3 {
			full, empty := close.Near(s.Threads[0].Pc)
			for _, c := range []struct {
				near int
				is   func(s api.State) int
			}{
				{full, func(s api.State) int { return s.Full.Epoch }},
				{empty, func(s api.State) int { return s.Empty.Epoch }},
			} {
				if c.near == 0 {
					if x, _ := close.Steps(s, 0, most); c.is(x) != c.is(s) {
						t.Errorf("%d: not near, but a notice comes: %+v", n, s)
					}
					continue
				}
				if x, _ := close.Steps(s, 0, c.near-1); c.is(x) != c.is(s) {
					t.Errorf("%d: noticed before %d steps: %+v", n, c.near, s)
				}
				if x, _ := close.Steps(s, 0, c.near); c.is(x) != c.is(s)+1 {
					t.Errorf("%d: not noticed after %d steps: %+v", n, c.near, s)
				}
			}
			s = close.Step(s, 0)
		}
	}
}

// P16.4: it is done after three steps, whoever else there is; behind them nobody waits: in all that may be laid, with all others parked.
func TestAlone(t *testing.T) {
	for n := range 6 * 3 * 4 * 2 * 3 {
		log, policy, how, kind, mode := 1+n%6, n/6%3, n/18%4, 7+n/72%2, n/144
		c := api.Config{Log: log, Threads: 1 + n%16, Policy: policy, Wait: how, Single: n%5 == 0}
		id := n % c.Threads
		s, _ := fabric.New(c)
		s.Word.Mode = mode
		for other := range c.Threads {
			line := []*api.Event{&s.Full, &s.Empty}[other%2]
			line.Line = append(line.Line, other)
			s.Threads[other] = api.Thread{Status: api.TParked, Kind: 1 + 3*(other%2), Pc: 2}
		}
		s.Threads[id] = api.Thread{}
		s, err := fabric.Invoke(s, id, kind, n, 0)
		if err != api.OK {
			t.Fatal(err)
		}
		for often := range 5 {
			if (s.Threads[id].Status == api.TIdle) != (often > 2) || (len(s.Log) == 1) != (often > 0) || !fabric.Check(s) {
				t.Fatalf("%+v, after %d steps: %+v", c, often, s)
			}
			if often > 0 && s.Word.Mode != max(mode, kind-6) {
				t.Fatalf("%+v, after %d steps: %+v", c, often, s)
			}
			s = close.Step(s, id)
		}
		if len(s.Full.Line) > 0 || len(s.Empty.Line) > 0 || s.Full.Epoch != 1 || s.Empty.Epoch != 1 || s.Log[0] != (api.Entry{Thread: id, Kind: kind, Val: n, Result: api.ROK}) {
			t.Fatalf("%+v, in the end: %+v", c, s)
		}
		for other, x := range s.Threads {
			if other != id && x.Status != api.TRuns || other == id && x != (api.Thread{Kind: kind, Val: n, Result: api.ROK}) {
				t.Fatalf("%+v: thread %d: %+v", c, other, x)
			}
		}
	}
}

// P16.1: no mode goes back, whoever closes, in whatever order.
func TestTwoClose(t *testing.T) {
	for _, kinds := range [][2]int{{api.KDrain, api.KHalt}, {api.KHalt, api.KDrain}, {api.KDrain, api.KDrain}, {api.KHalt, api.KHalt}} {
		for order := range 1 << 6 {
			s, _ := fabric.New(api.Config{Log: 1, Threads: 2})
			for id, kind := range kinds {
				s, _ = fabric.Invoke(s, id, kind, 0, 0)
			}
			for n := range 6 {
				x := close.Step(s, order>>n&1)
				if x.Word.Mode < s.Word.Mode || shared(s, x) > 1 {
					t.Fatalf("%v, %b: %+v, of %+v", kinds, order, x, s)
				}
				s = x
			}
			for id := range 2 {
				s, _ = close.Steps(s, id, most)
			}
			if s.Word.Mode != max(kinds[0], kinds[1])-6 || s.Threads[0].Result != api.ROK || s.Threads[1].Result != api.ROK || len(s.Log) != 2 || s.Full.Epoch != 2 {
				t.Fatalf("%v, %b: %+v", kinds, order, s)
			}
		}
	}
}

// pick is a step of who closes, sends, or receives.
func pick(s api.State, id int) api.State {
	switch s.Threads[id].Kind {
	case api.KDrain, api.KHalt:
		return close.Step(s, id)
	case api.KRecv, api.KTryRecv, api.KRecvUntil:
		return recv.Step(s, id)
	}
	return send.Step(s, id)
}

// crowd is a fabric with so many there, in which all of them begin to do something, and thread 0 closes; some have parked.
func crowd(policy, there int, kinds []int, parked bool) api.State {
	s, _ := fabric.New(api.Config{Log: 1, Threads: len(kinds), Policy: policy, Wait: api.Parking})
	for n := range there {
		s, _ = fabric.Invoke(s, 0, api.KSend, 90+n, 0)
		s, _ = send.Steps(s, 0, most)
	}
	s.Log = nil
	for id, kind := range kinds {
		s, _ = fabric.Invoke(s, id, kind, 10*id, 0)
	}
	for id := 1; parked && id < len(kinds); id++ {
		for range 30 {
			s = pick(s, id)
		}
	}
	return s
}

// closedRight tells whether what a step made of a fabric is what may become of one that was closed: once thread 0 is done nobody waits; nothing comes in any more, and, of one that is halted, nothing goes out.
func closedRight(s, x api.State) bool {
	if x.Word.Mode < s.Word.Mode || s.Word.Mode != api.Open && x.Word.Tail != s.Word.Tail || s.Word.Mode == api.Halted && x.Word != s.Word {
		return false
	}
	if x.Threads[0].Status != api.TIdle {
		return true
	}
	parked := func(t api.Thread) bool { return t.Status == api.TParked }
	return len(x.Full.Line) == 0 && len(x.Empty.Line) == 0 && !slices.ContainsFunc(x.Threads, parked)
}

// P16.4, W6: of all scripts of one who closes, and two others who send, or receive: behind its three steps nobody waits, and all end, as is said of what is closed.
func TestScripts(t *testing.T) {
	for _, kind := range []int{api.KDrain, api.KHalt} {
		for _, others := range [][2]int{{api.KRecv, api.KRecv}, {api.KSend, api.KSend}, {api.KSend, api.KRecv}, {api.KTryRecv, api.KRecvUntil}, {api.KTrySend, api.KSendUntil}} {
			for n := range 3 * 3 * 2 {
				policy, there, parked := n%3, n/3%3, n/9 == 1
				ends := scripts(t, crowd(policy, there, []int{kind, others[0], others[1]}, parked))
				if ends == 0 {
					t.Fatalf("%d, %v, policy %d, with %d: no script ends", kind, others, policy, there)
				}
			}
		}
	}
}

// scripts goes through all states that steps lead to, and counts those in which all have ended.
func scripts(t *testing.T, first api.State) int {
	t.Helper()
	seen, ends := map[string]bool{}, 0
	left := []api.State{first}
	for len(left) > 0 {
		s := left[len(left)-1]
		left = left[:len(left)-1]
		active := 0
		for id := range s.Threads {
			if s.Threads[id].Status == api.TRuns {
				active++
			}
			x := pick(s, id)
			if !fabric.Check(x) || shared(s, x) > 1 || !closedRight(s, x) {
				t.Fatalf("thread %d: %+v, of %+v", id, x, s)
			}
			// How often was looked in vain has no end, and nothing hangs on it where all park.
			x.Threads[id].Tries = 0
			if key := fmt.Sprint(x); !seen[key] {
				seen[key] = true
				left = append(left, x)
			}
		}
		if active == 0 {
			ends++
			ended := func(x api.Thread) bool { return x.Status == api.TIdle && x.Result != api.RNone }
			for id := range s.Threads {
				if !ended(s.Threads[id]) {
					t.Fatalf("thread %d is left: %+v", id, s)
				}
			}
			if len(fabric.Queue(s).Vals) > 0 && slices.ContainsFunc(s.Log, func(e api.Entry) bool { return e.Result == api.RClosed && e.Kind == api.KRecv }) {
				t.Fatalf("told that it is closed, with something left: %+v", s)
			}
		}
	}
	return ends
}

// P16.1, W6: who waits for something is told of a drain, with what is left, and of a halt; who waits for room, too.
func TestWhoWaits(t *testing.T) {
	for _, c := range []struct {
		name         string
		kind, there  int
		other, steps int
		result       int
	}{
		{"waits for something, drained", api.KDrain, 0, api.KRecv, 3, api.RClosed},
		{"waits for something, halted", api.KHalt, 0, api.KRecv, 3, api.RHalted},
		{"waits for room, drained", api.KDrain, 2, api.KSend, 2, api.RClosed},
		{"waits for room, halted", api.KHalt, 2, api.KSendUntil, 2, api.RHalted},
	} {
		s := crowd(api.Block, c.there, []int{c.kind, c.other}, true)
		for n := range c.steps {
			if s.Threads[1].Status != api.TParked {
				t.Fatalf("%s: woken after %d steps: %+v", c.name, n, s)
			}
			s = close.Step(s, 0)
		}
		if s.Threads[1].Status != api.TRuns {
			t.Fatalf("%s: not woken: %+v", c.name, s)
		}
		for range 2 {
			s = pick(s, 1)
		}
		if x := s.Threads[1]; x.Status != api.TIdle || x.Result != c.result || len(fabric.Queue(s).Vals) != c.there {
			t.Errorf("%s: %+v", c.name, s)
		}
	}
	s, _ := close.Steps(crowd(api.Block, 2, []int{api.KDrain, api.KRecv}, false), 0, most)
	for _, want := range []api.Thread{{Result: api.ROK, Got: 90}, {Result: api.ROK, Got: 91}, {Result: api.RClosed}} {
		s, _ = recv.Steps(s, 1, most)
		if x := s.Threads[1]; x.Status != api.TIdle || x.Result != want.Result || x.Got != want.Got {
			t.Errorf("what is left: %+v, not %+v", x, want)
		}
		s, _ = fabric.Invoke(s, 1, api.KRecv, 0, 0)
	}
}

// R1: lists far longer than may be, and a log that is long.
func TestLong(t *testing.T) {
	long := make([]int, 1_000_000)
	for name, by := range map[string]func(s *api.State){
		"slots":   func(s *api.State) { s.Slots = make([]api.Slot, 1_000_000) },
		"threads": func(s *api.State) { s.Threads = make([]api.Thread, 1_000_000) },
		"sends":   func(s *api.State) { s.Sends = long },
		"recvs":   func(s *api.State) { s.Recvs = long },
		"full":    func(s *api.State) { s.Full.Line = long },
		"empty":   func(s *api.State) { s.Empty.Line = long },
	} {
		s := with(lived(), by)
		if x, n := close.Steps(s, 2, most); n != 0 || !same(x, s) {
			t.Errorf("%s: %d", name, n)
		}
	}
	s := with(lived(), func(s *api.State) { s.Log = make([]api.Entry, 1_000_000) })
	if x, n := close.Steps(s, 2, most); n != 3 || len(x.Log) != 1_000_001 {
		t.Errorf("a long log: %d, %d", n, len(x.Log))
	}
}

// spare is a list with room behind it, in which something stands.
func spare[T any](l []T, behind T) []T {
	m := slices.Grow(slices.Clone(l), 4)
	for n := range m[:cap(m)][len(m):] {
		m[:cap(m)][len(m)+n] = behind
	}
	return m
}

// roomy is a state in which all lists have room behind them.
func roomy(s api.State) api.State {
	s.Slots = spare(s.Slots, api.Slot{Stamp: -77})
	s.Threads, s.Log = spare(s.Threads, api.Thread{Val: -77}), spare(s.Log, api.Entry{Val: -77})
	s.Sends, s.Recvs = spare(s.Sends, -77), spare(s.Recvs, -77)
	s.Full.Line, s.Empty.Line = spare(s.Full.Line, -77), spare(s.Empty.Line, -77)
	return s
}

// whole is a state with all that stands in the room behind its lists.
func whole(s api.State) api.State {
	s.Slots, s.Threads, s.Log = s.Slots[:cap(s.Slots)], s.Threads[:cap(s.Threads)], s.Log[:cap(s.Log)]
	s.Sends, s.Recvs = s.Sends[:cap(s.Sends)], s.Recvs[:cap(s.Recvs)]
	s.Full.Line, s.Empty.Line = s.Full.Line[:cap(s.Full.Line)], s.Empty.Line[:cap(s.Empty.Line)]
	return s
}

// fill writes one thing all over a list.
func fill[T any](l []T, x T) {
	for n := range l {
		l[n] = x
	}
}

// spoil writes all over what a state has, and over the room behind it.
func spoil(s api.State) {
	s = whole(s)
	fill(s.Slots, api.Slot{Stamp: -99, Val: -99})
	fill(s.Threads, api.Thread{Val: -99})
	fill(s.Log, api.Entry{Val: -99})
	for _, l := range [][]int{s.Sends, s.Recvs, s.Full.Line, s.Empty.Line} {
		fill(l, -99)
	}
}

// at has states in which the closer is at each step, with its thread; and some in which it does not close.
func at() []api.State {
	var l []api.State
	for _, pc := range []int{0, 1, 2, 3, 11} {
		s := with(lived(), func(s *api.State) { s.Threads[2].Pc = pc })
		l = append(l, s,
			with(s, func(s *api.State) { s.Full.Line, s.Empty.Line = nil, nil }),
			with(s, func(s *api.State) { s.Threads[2].Kind = api.KHalt }),
			with(s, func(s *api.State) { s.Word.Mode, s.Log = api.Halted, nil }))
	}
	return append(l, with(lived(), func(s *api.State) { s.Threads[2].Status = api.TParked }), with(lived(), func(s *api.State) { s.Now = -1 }), api.State{})
}

// answers has all states that are answered of one.
func answers(s api.State) []api.State {
	l := []api.State{}
	for _, id := range []int{-1, 0, 1, 2, 4, 5} {
		l = append(l, close.Step(s, id))
		for _, many := range []int{-1, 0, 1, 2, 9} {
			x, _ := close.Steps(s, id, many)
			l = append(l, x)
		}
	}
	return l
}

// R3: what is handed in is neither changed nor kept, its spare room included.
func TestHandedIn(t *testing.T) {
	for n, from := range at() {
		s := roomy(from)
		was := apart(whole(s))
		is := []api.State{}
		for _, x := range answers(s) {
			is = append(is, apart(x))
			spoil(x)
			if !same(whole(s), was) {
				t.Fatalf("%d: what was handed in is %+v, not %+v", n, whole(s), was)
			}
		}
		l := answers(s)
		spoil(s)
		for m, x := range l {
			if !same(x, is[m]) {
				t.Fatalf("%d, %d: what was handed in is kept: %+v, not %+v", n, m, x, is[m])
			}
		}
	}
}

// R3: no two lists of one answer share memory, though those handed in do.
func TestShareNothing(t *testing.T) {
	one := []int{2, 3, 1, 0}
	for n, from := range at() {
		for _, by := range []func(s *api.State){
			func(s *api.State) { s.Sends, s.Recvs, s.Full.Line, s.Empty.Line = one, one, one, one },
			func(s *api.State) { s.Sends, s.Recvs, s.Full.Line, s.Empty.Line = one[1:2], one[:1], one[1:], one[3:] },
			func(s *api.State) { s.Sends, s.Recvs, s.Full.Line, s.Empty.Line = one[:0], one[:0], one, one[:0] },
		} {
			for m, x := range answers(with(from, by)) {
				lists := [][]int{x.Sends, x.Recvs, x.Full.Line, x.Empty.Line}
				for a, l := range lists {
					was := apart(x)
					fill(l[:cap(l)], -99)
					for b, other := range [][]int{was.Sends, was.Recvs, was.Full.Line, was.Empty.Line} {
						if a != b && !slices.Equal(other, lists[b]) {
							t.Fatalf("%d, %d: lists %d and %d share memory", n, m, a, b)
						}
						copy(lists[b], other)
					}
				}
			}
			if !slices.Equal(one, []int{2, 3, 1, 0}) {
				t.Fatalf("%d: %v", n, one)
			}
		}
	}
}

// R4: the same is answered of the same, in whatever order it is asked, whatever room is behind, and however goroutines run.
func TestSameAnswers(t *testing.T) {
	l := at()
	asked := [][]api.State{}
	for _, s := range l {
		asked = append(asked, answers(s))
	}
	var group sync.WaitGroup
	for n := range 8 {
		group.Go(func() {
			for m := range l {
				m = (m*5 + n) % len(l)
				s := l[m]
				if n%2 == 1 {
					s = roomy(s)
				}
				if !slices.EqualFunc(answers(s), asked[m], same) {
					t.Errorf("of %+v another answer", l[m])
				}
			}
		})
	}
	group.Wait()
}
