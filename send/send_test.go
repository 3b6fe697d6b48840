package send_test

import (
	"slices"
	"sync"
	"testing"

	"sakia/api"
	"sakia/fabric"
	"sakia/send"
)

const (
	most  = 1<<63 - 1
	least = -1 << 63
	last  = 1 << 40
)

// ids are numbers of threads, beside them, and far outside.
var ids = []int{least, -1 << 41, -2, -1, 0, 1, 2, 3, 4, 15, 16, 1 << 32, 1<<32 + 1, most}

// change makes of a state another one.
type change struct {
	name string
	by   func(s *api.State)
}

// ring has the slots of a ring in which all that is there was written, and all else is released.
func ring(room, head int) []api.Slot {
	l := make([]api.Slot, room)
	for p := head; p < head+room; p++ {
		l[p%room] = api.Slot{Stamp: p, Val: 500 + p}
	}
	return l
}

// fresh is a fabric of room 2, empty, of three threads, of which thread 0 sends 7, and is at that step.
func fresh(kind, pc int) api.State {
	s := api.State{
		Config:  api.Config{Log: 1, Threads: 3, Wait: api.Parking},
		Slots:   []api.Slot{{}, {Stamp: 1}},
		Threads: make([]api.Thread, 3),
	}
	s.Threads[0] = api.Thread{Status: api.TRuns, Kind: kind, Val: 7, Pc: pc}
	if pc > 0 {
		s.Sends = []int{0}
	}
	return s
}

// lived is a fabric of room 4, three of it taken, in which all lists have something, and thread 2 sends.
func lived() api.State {
	return api.State{
		Config: api.Config{Log: 2, Threads: 4, Wait: api.Phased, Spin: 2, Yield: 1},
		Word:   api.Word{Head: 6, Tail: 9},
		Slots:  []api.Slot{{Stamp: 8, Val: 80}, {Stamp: 9, Val: 90}, {Stamp: 6, Val: 60}, {Stamp: 7, Val: 70}},
		Sends:  []int{2, 0}, Recvs: []int{1, 3},
		Full: api.Event{Epoch: 3, Line: []int{0}}, Empty: api.Event{Epoch: 5, Line: []int{1, 3}},
		Now: 12,
		Threads: []api.Thread{
			{Status: api.TParked, Kind: api.KSendUntil, Val: 100, Until: 20, Pc: 2, Reg: 6, Seen: 3},
			{Status: api.TParked, Kind: api.KRecv, Val: 101, Pc: 2, Seen: 5},
			{Status: api.TRuns, Kind: api.KSend, Val: 102, Pc: 4, Reg: 9, Seen: 3, Tries: 1},
			{Status: api.TParked, Kind: api.KRecvUntil, Val: 103, Until: 30, Pc: 2, Seen: 5},
		},
		Log: []api.Entry{{Thread: 3, Kind: api.KTryRecv, Val: 103, Result: api.ROK, Got: 50}},
	}
}

// ended is a fabric at its upper bounds, of which thread 1 sends.
func ended() api.State {
	return api.State{
		Config: api.Config{Log: 1, Threads: 2, Policy: api.DropOld, Wait: api.Yielding},
		Word:   api.Word{Head: last - 2, Tail: last},
		Slots:  []api.Slot{{Stamp: last - 2, Val: most}, {Stamp: last - 1, Val: least}},
		Sends:  []int{1},
		Full:   api.Event{Epoch: last, Line: []int{0}},
		Empty:  api.Event{Epoch: last},
		Now:    last,
		Threads: []api.Thread{
			{},
			{Status: api.TRuns, Kind: api.KSendUntil, Val: most, Until: last, Pc: 10, Reg: last - 2, Seen: last, Tries: last, Late: true, Result: api.RHalted, Got: most},
		},
		Log: []api.Entry{{Thread: -1, Kind: least, Val: most, Result: 99, Got: most}},
	}
}

// apart is a state that shares no memory with another one.
func apart(s api.State) api.State {
	s.Slots, s.Threads, s.Log = slices.Clone(s.Slots), slices.Clone(s.Threads), slices.Clone(s.Log)
	s.Sends, s.Recvs = slices.Clone(s.Sends), slices.Clone(s.Recvs)
	s.Full.Line, s.Empty.Line = slices.Clone(s.Full.Line), slices.Clone(s.Empty.Line)
	return s
}

// with is a state that is changed.
func with(s api.State, by ...func(s *api.State)) api.State {
	s = apart(s)
	for _, f := range by {
		f(&s)
	}
	return s
}

// same tells whether two states have the same in them.
func same(a, b api.State) bool {
	return a.Config == b.Config && a.Word == b.Word && a.Now == b.Now &&
		slices.Equal(a.Slots, b.Slots) && slices.Equal(a.Threads, b.Threads) && slices.Equal(a.Log, b.Log) &&
		slices.Equal(a.Sends, b.Sends) && slices.Equal(a.Recvs, b.Recvs) && alike(a.Full, b.Full) && alike(a.Empty, b.Empty)
}

// alike tells whether two events have the same in them.
func alike(a, b api.Event) bool {
	return a.Epoch == b.Epoch && slices.Equal(a.Line, b.Line)
}

// sends is what the chapter says of which threads send.
func sends(s api.State, id int) bool {
	if !fabric.Check(s) || id < 0 || id >= len(s.Threads) {
		return false
	}
	kind := s.Threads[id].Kind
	return s.Threads[id].Status == 1 && (kind == 1 || kind == 2 || kind == 3)
}

// tell is what the chapter says of what is told.
func tell(s *api.State, id, kind, result, got, pc int) {
	t := &s.Threads[id]
	s.Log = append(s.Log, api.Entry{Thread: id, Kind: kind, Val: t.Val, Result: result, Got: got})
	if kind != 9 {
		t.Result, t.Got = result, got
	}
	t.Pc = pc
}

// closed is what one is told who sends, 0 if it is open still.
func closed(mode int) int {
	return []int{0, 6, 7}[mode]
}

// full tells whether there is no room.
func full(s api.State) bool {
	return s.Word.Tail-s.Word.Head == len(s.Slots) || s.Word.Tail == last
}

// parks tells whether who looked in vain so often parks.
func parks(c api.Config, tries int) bool {
	return c.Wait == 3 || c.Wait == 2 && tries >= c.Spin+c.Yield
}

// looked is what the chapter says of the step at Pc 2.
func looked(s *api.State, id int) {
	t := &s.Threads[id]
	switch {
	case s.Word.Mode > 0:
		tell(s, id, t.Kind, closed(s.Word.Mode), 0, 9)
	case !full(*s):
		t.Reg, t.Pc = s.Word.Tail, 3
	case s.Config.Policy == 1:
		tell(s, id, t.Kind, 3, 0, 9)
	case s.Config.Policy == 2:
		t.Reg, t.Pc = s.Word.Head, 10
	case t.Kind == 2:
		tell(s, id, t.Kind, 2, 0, 9)
	case t.Late:
		tell(s, id, t.Kind, 5, 0, 9)
	case parks(s.Config, t.Tries):
		t.Pc = 5
	default:
		t.Tries = min(t.Tries+1, last)
	}
}

// step is what the chapter says of a step.
func step(s api.State, id int) api.State {
	if !sends(s, id) {
		return s
	}
	s = apart(s)
	t, n := &s.Threads[id], len(s.Slots)
	switch t.Pc {
	case 0:
		if !slices.Contains(s.Sends, id) {
			s.Sends = append(s.Sends, id)
		}
		t.Pc = 1
	case 1:
		switch {
		case len(s.Sends) > 0 && s.Sends[0] == id:
			t.Pc = 2
		case t.Late:
			tell(&s, id, t.Kind, 5, 0, 9)
		default:
			t.Tries = min(t.Tries+1, last)
		}
	case 2:
		looked(&s, id)
	case 3:
		if s.Slots[t.Reg%n].Stamp == t.Reg {
			s.Slots[t.Reg%n].Val, t.Pc = t.Val, 4
		}
	case 4:
		switch {
		case s.Word.Mode > 0:
			tell(&s, id, t.Kind, closed(s.Word.Mode), 0, 9)
		case full(s):
			t.Pc = 2
		default:
			s.Word.Tail++
			tell(&s, id, t.Kind, 1, 0, 6)
		}
	case 5:
		t.Seen, t.Pc = s.Full.Epoch, 7
	case 6:
		s.Empty.Epoch, t.Pc = min(s.Empty.Epoch+1, last), 9
		if len(s.Empty.Line) > 0 {
			if first := &s.Threads[s.Empty.Line[0]]; first.Status == 2 {
				first.Status = 1
			}
			s.Empty.Line = s.Empty.Line[1:]
		}
	case 7:
		t.Pc = 2
		if s.Word.Mode == 0 && full(s) && !t.Late {
			t.Pc = 8
		}
	case 8:
		t.Pc = 2
		if !t.Late && s.Full.Epoch == t.Seen && !slices.Contains(s.Full.Line, id) {
			s.Full.Line = append(s.Full.Line, id)
			t.Status, t.Tries = 2, 0
		}
	case 9:
		s.Sends = slices.DeleteFunc(s.Sends, func(x int) bool { return x == id })
		*t = api.Thread{Kind: t.Kind, Val: t.Val, Until: t.Until, Result: t.Result, Got: t.Got}
	case 10:
		t.Pc = 2
		if s.Word == (api.Word{Head: t.Reg, Tail: t.Reg + n}) {
			s.Word.Head++
			tell(&s, id, 9, 1, s.Slots[t.Reg%n].Val, 11)
		}
	case 11:
		if s.Slots[t.Reg%n].Stamp == t.Reg {
			s.Slots[t.Reg%n].Stamp += n
		}
		t.Pc = 2
	}
	return s
}

// changes has what may be done to states, such that a step of a thread does something else.
func changes(id int) []change {
	of := func(f func(t *api.Thread)) func(s *api.State) {
		return func(s *api.State) { f(&s.Threads[id]) }
	}
	l := []change{
		{"nothing", func(s *api.State) {}},
		{"empty", func(s *api.State) { s.Word.Head = s.Word.Tail }},
		{"full", func(s *api.State) { s.Word.Tail = s.Word.Head + len(s.Slots) }},
		{"at its end", func(s *api.State) { s.Word.Head, s.Word.Tail = last-1, last }},
		{"ahead of its end", func(s *api.State) { s.Word.Head, s.Word.Tail = last-1, last-1 }},
		{"at the end, empty", func(s *api.State) { s.Word.Head, s.Word.Tail = last, last }},
		{"draining", func(s *api.State) { s.Word.Mode = api.Draining }},
		{"halted", func(s *api.State) { s.Word.Mode = api.Halted }},
		{"no such mode", func(s *api.State) { s.Word.Mode = 3 }},
		{"more than full", func(s *api.State) { s.Word.Tail = s.Word.Head + len(s.Slots) + 1 }},
		{"slots at first", func(s *api.State) { s.Slots = ring(len(s.Slots), 0) }},
		{"slots a lap later", func(s *api.State) { s.Slots = ring(len(s.Slots), s.Word.Head+len(s.Slots)) }},
		{"slots of what is there", func(s *api.State) { s.Slots = ring(len(s.Slots), s.Word.Head) }},
		{"slots turned", func(s *api.State) { slices.Reverse(s.Slots) }},
		{"nobody sends", func(s *api.State) { s.Sends = nil }},
		{"it stands first", func(s *api.State) { s.Sends = []int{id, id ^ 1} }},
		{"it stands second", func(s *api.State) { s.Sends = []int{id ^ 1, id} }},
		{"it stands alone", func(s *api.State) { s.Sends = []int{id} }},
		{"another one stands", func(s *api.State) { s.Sends = []int{id ^ 1} }},
		{"it waits for room", func(s *api.State) { s.Full.Line = []int{id ^ 1, id} }},
		{"another one waits for room", func(s *api.State) { s.Full.Line = []int{id ^ 1} }},
		{"nobody waits for room", func(s *api.State) { s.Full.Line = nil }},
		{"it waits for something", func(s *api.State) { s.Empty.Line = []int{id, id ^ 1} }},
		{"another one waits for something", func(s *api.State) { s.Empty.Line = []int{id ^ 1, id} }},
		{"nobody waits for something", func(s *api.State) { s.Empty.Line = nil }},
		{"events that never came", func(s *api.State) { s.Full.Epoch, s.Empty.Epoch = 0, 0 }},
		{"events that came most often", func(s *api.State) { s.Full.Epoch, s.Empty.Epoch = last, last }},
		{"events that came too often", func(s *api.State) { s.Empty.Epoch = last + 1 }},
		{"nothing was told", func(s *api.State) { s.Log = nil }},
		{"no time", func(s *api.State) { s.Now = -1 }},
		{"another one is idle", func(s *api.State) { s.Threads[id^1] = api.Thread{Kind: api.KHalt, Result: api.ROK} }},
		{"it tries", of(func(t *api.Thread) { t.Kind, t.Until, t.Late = api.KTrySend, 0, false })},
		{"it waits", of(func(t *api.Thread) { t.Kind, t.Until, t.Late = api.KSend, 0, false })},
		{"it waits until", of(func(t *api.Thread) { t.Kind, t.Until, t.Late = api.KSendUntil, 9, false })},
		{"it is late", of(func(t *api.Thread) { t.Kind, t.Until, t.Late = api.KSendUntil, 9, true })},
		{"it is late, and does not wait until", of(func(t *api.Thread) { t.Kind, t.Until, t.Late = api.KSend, 0, true })},
		{"it receives", of(func(t *api.Thread) { t.Kind, t.Until, t.Late = api.KRecv, 0, false })},
		{"it drains", of(func(t *api.Thread) { t.Kind, t.Until, t.Late = api.KDrain, 0, false })},
		{"it lets go", of(func(t *api.Thread) { t.Kind, t.Until, t.Late = api.KEvict, 0, false })},
		{"it is parked", of(func(t *api.Thread) { t.Status = api.TParked })},
		{"it is idle", of(func(t *api.Thread) { *t = api.Thread{Kind: t.Kind, Val: t.Val, Until: t.Until} })},
		{"it saw room come", func(s *api.State) { s.Threads[id].Seen = s.Full.Epoch }},
		{"it saw less room come", func(s *api.State) { s.Threads[id].Seen = s.Full.Epoch - 1 }},
		{"it saw nothing", of(func(t *api.Thread) { t.Seen = -1 })},
		{"a result that may not be", of(func(t *api.Thread) { t.Result = 8 })},
		{"it is at the head", func(s *api.State) { s.Threads[id].Reg = s.Word.Head }},
		{"it is at the tail", func(s *api.State) { s.Threads[id].Reg = s.Word.Tail }},
	}
	for _, n := range []int{0, 1, last - 1, last, last + 1} {
		l = append(l, change{"Reg", of(func(t *api.Thread) { t.Reg = n })})
	}
	for _, n := range []int{0, 2, 3, 4, last - 1, last} {
		l = append(l, change{"Tries", of(func(t *api.Thread) { t.Tries = n })})
	}
	for _, c := range []api.Config{{}, {Wait: api.Yielding}, {Wait: api.Phased}, {Wait: api.Phased, Spin: 1, Yield: 8}, {Wait: api.Parking}, {Spin: 1}} {
		for policy := range 3 {
			l = append(l, change{"Policy, and Wait", func(s *api.State) {
				c.Log, c.Threads, c.Policy = s.Config.Log, s.Config.Threads, policy
				s.Config = c
			}})
		}
	}
	return l
}

// sorts goes through states of all sorts: all that two changes make, of each root, with the sender at each step there is.
func sorts(yield func(s api.State, id int, names ...string)) {
	for _, root := range []struct {
		s  api.State
		id int
	}{{fresh(api.KSend, 1), 0}, {lived(), 2}, {ended(), 1}} {
		l := changes(root.id)
		for _, a := range l {
			for _, b := range l {
				s := with(root.s, a.by, b.by)
				for pc := range 12 {
					if s.Threads[root.id].Status != api.TIdle {
						s.Threads[root.id].Pc = pc
					}
					yield(s, root.id, a.name, b.name)
				}
			}
		}
	}
}

// P14.1: each step, as the words of the chapter say it, and P14.4: what may be stays so.
func TestStepAsTheWordsSay(t *testing.T) {
	sent, at := 0, [12]int{}
	sorts(func(s api.State, id int, names ...string) {
		x, want := send.Step(s, id), step(s, id)
		if !same(x, want) {
			t.Fatalf("%v: Step(%+v, %d) = %+v, not %+v", names, s, id, x, want)
		}
		if fabric.Check(x) != fabric.Check(s) {
			t.Fatalf("%v: %+v, of %+v, may not be", names, x, s)
		}
		if sends(s, id) {
			sent++
			at[s.Threads[id].Pc]++
		}
	})
	if sent < 80_000 || slices.Min(at[:]) < 6_000 {
		t.Errorf("only %d sent, %v", sent, at)
	}
}

// shared counts what threads share that two states differ in.
func shared(a, b api.State) int {
	many := 0
	for _, differs := range []bool{a.Word != b.Word, !slices.Equal(a.Sends, b.Sends), !alike(a.Full, b.Full), !alike(a.Empty, b.Empty)} {
		if differs {
			many++
		}
	}
	for n := range a.Slots {
		if a.Slots[n] != b.Slots[n] {
			many++
		}
	}
	return many
}

// P14.4: no step changes more than one thing; what is not the sender's stays, but for whom it wakes.
func TestOneThing(t *testing.T) {
	sorts(func(s api.State, id int, names ...string) {
		if !sends(s, id) {
			return
		}
		x, pc := send.Step(s, id), s.Threads[id].Pc
		if n := shared(s, x); n > 1 {
			t.Fatalf("%v: %d things: %+v, of %+v", names, n, x, s)
		}
		if x.Config != s.Config || x.Now != s.Now || !slices.Equal(x.Recvs, s.Recvs) || len(x.Threads) != len(s.Threads) {
			t.Fatalf("%v: %+v, of %+v", names, x, s)
		}
		told := len(x.Log) - len(s.Log)
		if told < 0 || told > 1 || !slices.Equal(x.Log[:len(s.Log)], s.Log) || told == 1 && x.Log[len(s.Log)].Thread != id {
			t.Fatalf("%v: told is %+v, of %+v", names, x.Log, s.Log)
		}
		for n := range s.Threads {
			was := s.Threads[n]
			if pc == 6 && len(s.Empty.Line) > 0 && s.Empty.Line[0] == n && was.Status == api.TParked {
				was.Status = api.TRuns
			}
			if n != id && x.Threads[n] != was {
				t.Fatalf("%v: thread %d is %+v, of %+v", names, n, x.Threads[n], s.Threads[n])
			}
		}
	})
}

// P14.1: each step, of thread 0, what becomes of it, and of what threads share.
func TestSteps(t *testing.T) {
	entry := func(kind, result, got int) func(s *api.State) {
		return func(s *api.State) {
			s.Log = append(s.Log, api.Entry{Kind: kind, Val: 7, Result: result, Got: got})
		}
	}
	is := func(f func(t *api.Thread)) func(s *api.State) { return func(s *api.State) { f(&s.Threads[0]) } }
	told := func(kind, result, pc int) func(s *api.State) {
		return func(s *api.State) {
			entry(kind, result, 0)(s)
			s.Threads[0].Result, s.Threads[0].Pc = result, pc
		}
	}
	pc := func(n int) func(s *api.State) { return is(func(t *api.Thread) { t.Pc = n }) }
	tries := func(n int) func(s *api.State) { return is(func(t *api.Thread) { t.Tries = n }) }
	late := func(s *api.State) { s.Threads[0].Until, s.Threads[0].Late = 9, true }
	fill := func(s *api.State) {
		s.Word.Tail = 2
		s.Slots[0].Val, s.Slots[1].Val = 5, 6
	}
	policy := func(n int) func(s *api.State) { return func(s *api.State) { s.Config.Policy = n } }
	mode := func(n int) func(s *api.State) { return func(s *api.State) { s.Word.Mode = n } }
	waits := func(n, spin, yield int) func(s *api.State) {
		return func(s *api.State) { s.Config.Wait, s.Config.Spin, s.Config.Yield = n, spin, yield }
	}
	line := func(l ...int) func(s *api.State) { return func(s *api.State) { s.Sends = l } }
	all := func(l ...func(s *api.State)) []func(s *api.State) { return l }
	parked := func(s *api.State) {
		s.Empty = api.Event{Epoch: 4, Line: []int{2, 1}}
		s.Threads[1] = api.Thread{Status: api.TParked, Kind: api.KRecv, Pc: 2}
		s.Threads[2] = api.Thread{Status: api.TParked, Kind: api.KRecvUntil, Until: 3, Pc: 2}
	}
	for _, c := range []struct {
		name      string
		kind, pc  int
		from, has []func(s *api.State)
	}{
		{"enters", api.KSend, 0, nil, all(line(0), pc(1))},
		{"enters behind others", api.KSend, 0, all(line(2, 1)), all(line(2, 1, 0), pc(1))},
		{"enters where it stands already", api.KSend, 0, all(line(0, 1)), all(pc(1))},
		{"enters late, closed, and full", api.KSendUntil, 0, all(late, mode(2), fill), all(line(0), pc(1))},

		{"is the first", api.KSend, 1, all(line(0, 1)), all(pc(2))},
		{"is the first, and late", api.KSendUntil, 1, all(late), all(pc(2))},
		{"is the second", api.KSend, 1, all(line(1, 0)), all(tries(1))},
		{"is the second, and tries", api.KTrySend, 1, all(line(1, 0)), all(tries(1))},
		{"is the second, and it is halted", api.KSend, 1, all(line(1, 0), mode(2)), all(tries(1))},
		{"is the second, and tried most often", api.KSend, 1, all(line(1, 0), tries(last)), nil},
		{"is the second, and tried nearly so often", api.KSend, 1, all(line(1, 0), tries(last-1)), all(tries(last))},
		{"is the second, and late", api.KSendUntil, 1, all(line(1, 0), late), all(told(3, api.RTimeout, 9))},
		{"is the second, and its time came, but it is not late", api.KSendUntil, 1, all(line(1, 0), func(s *api.State) { s.Now = 99 }), all(tries(1))},
		{"does not stand there", api.KSend, 1, all(line()), all(tries(1))},
		{"does not stand there, and is late", api.KSendUntil, 1, all(line(), late), all(told(3, api.RTimeout, 9))},

		{"sees room", api.KSend, 2, nil, all(pc(3))},
		{"sees room, at the tail", api.KSend, 2, all(func(s *api.State) { s.Word = api.Word{Head: 8, Tail: 9} }), all(is(func(t *api.Thread) { t.Reg = 9 }), pc(3))},
		{"sees room, and is late", api.KSendUntil, 2, all(late), all(pc(3))},
		{"sees room, and is not in line", api.KSend, 2, all(line(1)), all(pc(3))},
		{"sees it drained", api.KSend, 2, all(mode(1)), all(told(1, api.RClosed, 9))},
		{"sees it drained, and full, and tries", api.KTrySend, 2, all(mode(1), fill), all(told(2, api.RClosed, 9))},
		{"sees it halted", api.KSendUntil, 2, all(mode(2), late), all(told(3, api.RHalted, 9))},
		{"drops the new one", api.KSend, 2, all(fill, policy(1)), all(told(1, api.RDropped, 9))},
		{"drops the new one that tries", api.KTrySend, 2, all(fill, policy(1)), all(told(2, api.RDropped, 9))},
		{"drops the new one that is late", api.KSendUntil, 2, all(fill, policy(1), late), all(told(3, api.RDropped, 9))},
		{"drops the old one", api.KSend, 2, all(fill, policy(2), func(s *api.State) { s.Word.Head, s.Word.Tail = 5, 7 }), all(is(func(t *api.Thread) { t.Reg = 5 }), pc(10))},
		{"drops the old one, and tries", api.KTrySend, 2, all(fill, policy(2)), all(pc(10))},
		{"drops the old one, and is late", api.KSendUntil, 2, all(fill, policy(2), late), all(pc(10))},
		{"at its end there is no old one to drop", api.KSend, 2, all(policy(2), func(s *api.State) { s.Word = api.Word{Head: last, Tail: last} }), all(is(func(t *api.Thread) { t.Reg = last }), pc(10))},
		{"tries, and it is full", api.KTrySend, 2, all(fill), all(told(2, api.RFull, 9))},
		{"tries, and it is at its end", api.KTrySend, 2, all(func(s *api.State) { s.Word = api.Word{Head: last, Tail: last} }), all(told(2, api.RFull, 9))},
		{"is late, and it is full", api.KSendUntil, 2, all(fill, late), all(told(3, api.RTimeout, 9))},
		{"parks", api.KSend, 2, all(fill), all(pc(5))},
		{"parks until", api.KSendUntil, 2, all(fill), all(pc(5))},
		{"spins", api.KSend, 2, all(fill, waits(api.Busy, 0, 0), tries(99)), all(tries(100))},
		{"yields", api.KSend, 2, all(fill, waits(api.Yielding, 0, 0), tries(99)), all(tries(100))},
		{"spins, most often", api.KSendUntil, 2, all(fill, waits(api.Busy, 0, 0), tries(last)), nil},
		{"spins, and yields later", api.KSend, 2, all(fill, waits(api.Phased, 2, 1), tries(1)), all(tries(2))},
		{"yields, and parks later", api.KSend, 2, all(fill, waits(api.Phased, 2, 1), tries(2)), all(tries(3))},
		{"parks in the end", api.KSend, 2, all(fill, waits(api.Phased, 2, 1), tries(3)), all(pc(5))},
		{"parks, having tried in line", api.KSend, 2, all(fill, waits(api.Phased, 2, 1), tries(last)), all(pc(5))},

		{"writes", api.KSend, 3, nil, all(func(s *api.State) { s.Slots[0].Val = 7 }, pc(4))},
		{"writes at its position", api.KSend, 3, all(is(func(t *api.Thread) { t.Reg = 1 })), all(func(s *api.State) { s.Slots[1].Val = 7 }, pc(4))},
		{"writes where another one was", api.KSend, 3, all(fill), all(func(s *api.State) { s.Slots[0].Val = 7 }, pc(4))},
		{"may not write yet", api.KSend, 3, all(is(func(t *api.Thread) { t.Reg = 2 })), nil},
		{"may not write any more, and is late", api.KSendUntil, 3, all(late, func(s *api.State) { s.Slots[0].Stamp = 2 }), nil},

		{"is in", api.KSend, 4, nil, all(func(s *api.State) { s.Word.Tail = 1 }, told(1, api.ROK, 6))},
		{"is in, and tried", api.KTrySend, 4, nil, all(func(s *api.State) { s.Word.Tail = 1 }, told(2, api.ROK, 6))},
		{"is in, and late", api.KSendUntil, 4, all(late), all(func(s *api.State) { s.Word.Tail = 1 }, told(3, api.ROK, 6))},
		{"is in, behind another one", api.KSend, 4, all(func(s *api.State) { s.Word.Tail = 1 }), all(func(s *api.State) { s.Word.Tail = 2 }, told(1, api.ROK, 6))},
		{"is in, at the last position", api.KSend, 4, all(func(s *api.State) { s.Word = api.Word{Head: last - 1, Tail: last - 1} }), all(func(s *api.State) { s.Word.Tail = last }, told(1, api.ROK, 6))},
		{"is not in, at its end", api.KSend, 4, all(func(s *api.State) { s.Word = api.Word{Head: last - 1, Tail: last} }), all(pc(2))},
		{"is not in, since it is full", api.KSend, 4, all(fill), all(pc(2))},
		{"is not in, and tried", api.KTrySend, 4, all(fill), all(pc(2))},
		{"is not in, since it is drained", api.KSend, 4, all(mode(1)), all(told(1, api.RClosed, 9))},
		{"is not in, since it is drained, and full", api.KSend, 4, all(mode(1), fill), all(told(1, api.RClosed, 9))},
		{"is not in, since it is halted", api.KSendUntil, 4, all(mode(2), late), all(told(3, api.RHalted, 9))},

		{"sees how often room came", api.KSend, 5, all(func(s *api.State) { s.Full.Epoch = 4 }), all(is(func(t *api.Thread) { t.Seen = 4 }), pc(7))},
		{"sees how often room came, and is late", api.KSendUntil, 5, all(late, func(s *api.State) { s.Threads[0].Seen = 9 }), all(is(func(t *api.Thread) { t.Seen = 0 }), pc(7))},

		{"tells nobody that something came", api.KSend, 6, nil, all(func(s *api.State) { s.Empty.Epoch = 1 }, pc(9))},
		{"tells nobody, though thread 0 is parked", api.KSend, 6, all(parked, func(s *api.State) { s.Empty.Line = nil }), all(func(s *api.State) { s.Empty.Epoch = 5 }, pc(9))},
		{"wakes the first one", api.KSend, 6, all(parked), all(func(s *api.State) {
			s.Empty = api.Event{Epoch: 5, Line: []int{1}}
			s.Threads[2].Status = api.TRuns
		}, pc(9))},
		{"tells one that is idle", api.KSend, 6, all(func(s *api.State) { s.Empty.Line = []int{1, 2} }), all(func(s *api.State) { s.Empty = api.Event{Epoch: 1, Line: []int{2}} }, pc(9))},
		{"tells itself", api.KSend, 6, all(func(s *api.State) { s.Empty.Line = []int{0} }), all(func(s *api.State) { s.Empty = api.Event{Epoch: 1} }, pc(9))},
		{"something came most often", api.KSend, 6, all(parked, func(s *api.State) { s.Empty.Epoch = last }), all(func(s *api.State) {
			s.Empty.Line = []int{1}
			s.Threads[2].Status = api.TRuns
		}, pc(9))},

		{"looks again, and there is no room", api.KSend, 7, all(fill), all(pc(8))},
		{"looks again, at its end", api.KSend, 7, all(func(s *api.State) { s.Word = api.Word{Head: last, Tail: last} }), all(pc(8))},
		{"looks again, and there is room", api.KSend, 7, nil, all(pc(2))},
		{"looks again, and it is drained", api.KSend, 7, all(fill, mode(1)), all(pc(2))},
		{"looks again, and it is halted", api.KSend, 7, all(fill, mode(2)), all(pc(2))},
		{"looks again, and is late", api.KSendUntil, 7, all(fill, late), all(pc(2))},

		{"waits", api.KSend, 8, all(tries(3), func(s *api.State) { s.Full.Line = []int{2} }), all(func(s *api.State) { s.Full.Line = []int{2, 0} }, is(func(t *api.Thread) { t.Status, t.Pc, t.Tries = api.TParked, 2, 0 }))},
		{"waits until", api.KSendUntil, 8, all(fill, is(func(t *api.Thread) { t.Reg = 9 })), all(func(s *api.State) { s.Full.Line = []int{0} }, is(func(t *api.Thread) { t.Status, t.Pc = api.TParked, 2 }))},
		{"does not wait, since room came", api.KSend, 8, all(tries(3), func(s *api.State) { s.Full.Epoch = 1 }), all(pc(2))},
		{"does not wait, since it saw what is not", api.KSend, 8, all(func(s *api.State) { s.Threads[0].Seen = -1 }), all(pc(2))},
		{"does not wait, since it is late", api.KSendUntil, 8, all(late), all(pc(2))},
		{"does not wait, since it waits there already", api.KSend, 8, all(func(s *api.State) { s.Full.Line = []int{0, 1} }), all(pc(2))},

		{"leaves", api.KSend, 9, all(line(0, 2), is(func(t *api.Thread) { t.Reg, t.Seen, t.Tries, t.Result, t.Got = 3, 4, 5, 6, 7 })),
			all(line(2), is(func(t *api.Thread) { *t = api.Thread{Kind: api.KSend, Val: 7, Result: 6, Got: 7} }))},
		{"leaves those ahead", api.KSendUntil, 9, all(line(2, 0, 1), late), all(line(2, 1), is(func(t *api.Thread) { *t = api.Thread{Kind: api.KSendUntil, Val: 7, Until: 9} }))},
		{"leaves where it does not stand", api.KTrySend, 9, all(line(1)), all(is(func(t *api.Thread) { *t = api.Thread{Kind: api.KTrySend, Val: 7} }))},

		{"lets the oldest one go", api.KSend, 10, all(fill), all(func(s *api.State) { s.Word.Head = 1 }, entry(9, api.ROK, 5), pc(11))},
		{"lets the oldest one go, of any policy, late", api.KSendUntil, 10, all(fill, late, func(s *api.State) { s.Threads[0].Result = 3 }), all(func(s *api.State) { s.Word.Head = 1 }, entry(9, api.ROK, 5), pc(11))},
		{"it is not the oldest any more", api.KSend, 10, all(fill, func(s *api.State) { s.Word.Head, s.Word.Tail = 1, 3 }), all(pc(2))},
		{"there is room", api.KSend, 10, all(func(s *api.State) { s.Word.Tail = 1 }), all(pc(2))},
		{"it is drained", api.KSend, 10, all(fill, mode(1)), all(pc(2))},
		{"it is halted", api.KSend, 10, all(fill, mode(2)), all(pc(2))},

		{"lets the next lap come", api.KSend, 11, nil, all(func(s *api.State) { s.Slots[0].Stamp = 2 }, pc(2))},
		{"lets the next lap come, at its position", api.KSend, 11, all(is(func(t *api.Thread) { t.Reg = 1 })), all(func(s *api.State) { s.Slots[1].Stamp = 3 }, pc(2))},
		{"it came already", api.KSend, 11, all(func(s *api.State) { s.Slots[0].Stamp = 2 }), all(pc(2))},
		{"it is far from coming, and it is halted", api.KSendUntil, 11, all(late, mode(2), is(func(t *api.Thread) { t.Reg = last })), all(pc(2))},
	} {
		s := with(fresh(c.kind, c.pc), c.from...)
		if !fabric.Check(s) {
			t.Errorf("%s: %+v may not be", c.name, s)
		}
		if x, want := send.Step(s, 0), with(s, c.has...); !same(x, want) {
			t.Errorf("%s: %+v, not %+v", c.name, x, want)
		}
		if x, n := send.Steps(s, 0, 1); n != 1 || !same(x, with(s, c.has...)) {
			t.Errorf("%s, as one of some: %+v, %d", c.name, x, n)
		}
	}
}

// P14.1, P14.2, R1: who does not send does nothing, whatever it is.
func TestOthers(t *testing.T) {
	stays := func(name string, s api.State, id int) {
		t.Helper()
		if x := send.Step(s, id); !same(x, s) {
			t.Errorf("%s: Step of %d: %+v, of %+v", name, id, x, s)
		}
		for _, many := range []int{least, 0, 1, 5, most} {
			if x, n := send.Steps(s, id, many); n != 0 || !same(x, s) {
				t.Errorf("%s: Steps of %d, %d: %+v, %d, of %+v", name, id, many, x, n, s)
			}
		}
	}
	for _, id := range ids {
		if id != 2 {
			stays("another one sends", lived(), id)
		}
	}
	for _, c := range []change{
		{"it is idle", func(s *api.State) { s.Threads[2] = api.Thread{Kind: api.KSend} }},
		{"it did nothing yet", func(s *api.State) { s.Threads[2] = api.Thread{} }},
		{"it is parked", func(s *api.State) { s.Threads[2].Status = api.TParked }},
		{"it receives", func(s *api.State) { s.Threads[2].Kind = api.KRecv }},
		{"it tries to receive", func(s *api.State) { s.Threads[2].Kind = api.KTryRecv }},
		{"it receives until", func(s *api.State) { s.Threads[2].Kind = api.KRecvUntil }},
		{"it drains", func(s *api.State) { s.Threads[2].Kind = api.KDrain }},
		{"it halts", func(s *api.State) { s.Threads[2].Kind = api.KHalt }},
		{"it lets go", func(s *api.State) { s.Threads[2].Kind = api.KEvict }},
		{"it does nothing, and runs", func(s *api.State) { s.Threads[2].Kind = 0 }},
		{"no such kind", func(s *api.State) { s.Threads[2].Kind = 1<<32 + 1 }},
		{"no such status", func(s *api.State) { s.Threads[2].Status = 3 }},
		{"a step below", func(s *api.State) { s.Threads[2].Pc = -1 }},
		{"a step above", func(s *api.State) { s.Threads[2].Pc = 12 }},
		{"a step far above", func(s *api.State) { s.Threads[2].Pc = most }},
		{"a position below", func(s *api.State) { s.Threads[2].Pc, s.Threads[2].Reg = 3, -1 }},
		{"a position above", func(s *api.State) { s.Threads[2].Pc, s.Threads[2].Reg = 11, last+1 }},
		{"it tried too often", func(s *api.State) { s.Threads[2].Pc, s.Threads[2].Tries = 2, last+1 }},
		{"late, though there is no time", func(s *api.State) { s.Threads[2].Late = true }},
		{"no configuration", func(s *api.State) { s.Config = api.Config{} }},
		{"no slots", func(s *api.State) { s.Slots = nil }},
		{"slots of another room", func(s *api.State) { s.Slots = ring(2, 0) }},
		{"no threads", func(s *api.State) { s.Threads = nil }},
		{"a thread less", func(s *api.State) { s.Threads = s.Threads[:3] }},
		{"another one may not be", func(s *api.State) { s.Threads[3].Kind = 77 }},
		{"it stands there twice", func(s *api.State) { s.Sends = []int{2, 2} }},
		{"none that is a thread stands there", func(s *api.State) { s.Full.Line = []int{4} }},
		{"something came too often", func(s *api.State) { s.Empty.Epoch = last + 1 }},
		{"far behind all time", func(s *api.State) { s.Now = most }},
		{"no such mode", func(s *api.State) { s.Word.Mode = -1 }},
		{"a word that may not be", func(s *api.State) { s.Word.Tail = most }},
		{"nothing at all", func(s *api.State) { *s = api.State{} }},
	} {
		for _, id := range []int{-1, 0, 2, 4} {
			stays(c.name, with(lived(), c.by), id)
		}
	}
}

// P14.2: so many steps, as long as it sends.
func TestHowMany(t *testing.T) {
	busy := with(fresh(api.KSend, 0), func(s *api.State) { s.Config.Wait, s.Word.Tail = api.Busy, 2 })
	second := with(fresh(api.KSendUntil, 0), func(s *api.State) { s.Sends = []int{2} })
	blocked := with(fresh(api.KTrySend, 3), func(s *api.State) { s.Threads[0].Reg = 2 })
	for _, c := range []struct {
		name       string
		s          api.State
		many, want int
	}{
		{"the least", fresh(api.KSend, 0), least, 0},
		{"below 0", fresh(api.KSend, 0), -1, 0},
		{"none", fresh(api.KSend, 0), 0, 0},
		{"one", fresh(api.KSend, 0), 1, 1},
		{"up to its value being in", fresh(api.KSend, 0), 5, 5},
		{"all but the last", fresh(api.KSend, 0), 6, 6},
		{"all", fresh(api.KSend, 0), 7, 7},
		{"more than all", fresh(api.KSend, 0), 8, 7},
		{"the greatest", fresh(api.KSend, 0), most, 7},
		{"from the midst on", fresh(api.KSend, 4), most, 3},
		{"the last", fresh(api.KSend, 9), most, 1},
		{"up to where it parks", with(busy, func(s *api.State) { s.Config.Wait = api.Parking }), most, 6},
		{"fewer than 1000", busy, 999, 999},
		{"1000", busy, 1000, 1000},
		{"more than 1000", busy, 1001, 1000},
		{"far more than 1000", busy, most, 1000},
		{"behind another one", second, most, 1000},
		{"at a slot that is not released", blocked, most, 1000},
	} {
		x, n := send.Steps(c.s, 0, c.many)
		want := c.s
		for range c.want {
			want = step(want, 0)
		}
		if n != c.want || !same(x, want) {
			t.Errorf("%s: %+v, %d, not %+v, %d", c.name, x, n, want, c.want)
		}
	}
}

// P14.2: of states of all sorts, the same as one step after the other.
func TestHowManyAsTheWordsSay(t *testing.T) {
	turn := 0
	sorts(func(s api.State, id int, names ...string) {
		// A part of them will do, since each is gone through more than once.
		if turn++; turn%7 != 0 {
			return
		}
		many := []int{-1, 0, 1, 2, 3, 8, 12}[turn/7%7]
		want, often := s, 0
		for often < many && sends(want, id) {
			want, often = step(want, id), often+1
		}
		if x, n := send.Steps(s, id, many); n != often || !same(x, want) {
			t.Fatalf("%v: Steps(%+v, %d, %d) = %+v, %d, not %+v, %d", names, s, id, many, x, n, want, often)
		}
	})
}

// P14.3: who stands in line, and how far it is to a notice.
func TestInsideNear(t *testing.T) {
	for pc := range 12 {
		if send.Inside(pc) != (pc > 0) {
			t.Errorf("Inside(%d)", pc)
		}
		if want := map[int]int{4: 2, 6: 1}[pc]; send.Near(pc) != want {
			t.Errorf("Near(%d) = %d", pc, send.Near(pc))
		}
	}
	for _, pc := range []int{least, -last, -12, -11, -4, -1, 12, 13, 16, 1 << 32, 1<<32 + 4, 1<<32 + 6, last, most} {
		if send.Inside(pc) || send.Near(pc) != 0 {
			t.Errorf("%d: %v, %d", pc, send.Inside(pc), send.Near(pc))
		}
	}
}

// P14.3: who stands in Sends, from when it entered till it is done, is inside; who has let something in is as near to its notice as is said.
func TestInsideNearOfSteps(t *testing.T) {
	for _, s := range []api.State{fresh(api.KSend, 0), with(fresh(api.KTrySend, 0), func(s *api.State) { s.Word.Tail, s.Config.Policy = 2, api.DropOld }), with(fresh(api.KSend, 0), func(s *api.State) { s.Word.Tail = 2 })} {
		for sends(s, 0) {
			pc := s.Threads[0].Pc
			if send.Inside(pc) != slices.Contains(s.Sends, 0) {
				t.Fatalf("%+v", s)
			}
			if near := send.Near(pc); near > 0 {
				if x, _ := send.Steps(s, 0, near-1); x.Empty.Epoch != s.Empty.Epoch {
					t.Fatalf("%+v: noticed before %d steps", s, near)
				}
				if x, _ := send.Steps(s, 0, near); x.Empty.Epoch != s.Empty.Epoch+1 {
					t.Fatalf("%+v: not noticed after %d steps", s, near)
				}
			}
			s = send.Step(s, 0)
		}
	}
}

// P14.4: alone, with room, it is in with its fifth step, and done after two more: in all that may be laid, wherever the ring begins.
func TestAlone(t *testing.T) {
	for n := range 6 * 3 * 4 * 3 {
		log, policy, how, kind := 1+n%6, n/6%3, n/18%4, 1+n/72
		c := api.Config{Log: log, Threads: 1 + n%16, Policy: policy, Wait: how}
		id, room := n%c.Threads, 1<<log
		for _, head := range []int{0, 1, room, 5*room - 1, last - 2*room} {
			for _, there := range []int{0, 1, room - 1} {
				s, _ := fabric.New(c)
				s, err := fabric.Invoke(s, id, kind, 1000+n, n%2*9)
				if err != api.OK {
					t.Fatal(err)
				}
				s.Slots, s.Word = ring(room, head), api.Word{Head: head, Tail: head + there}
				was := fabric.Queue(s)
				for often := range 8 {
					q, in := fabric.Queue(s), often > 4
					if len(q.Vals) > len(was.Vals) != in || slices.Contains(q.Vals, 1000+n) != in || (len(s.Log) == 1) != in {
						t.Fatalf("%+v, after %d steps: %+v", c, often, s)
					}
					if (s.Threads[id].Status == api.TIdle) != (often > 6) {
						t.Fatalf("%+v, after %d steps: %+v", c, often, s)
					}
					s = send.Step(s, id)
				}
				if !slices.Equal(fabric.Queue(s).Vals, append(was.Vals, 1000+n)) || s.Empty.Epoch != 1 || s.Threads[id].Result != api.ROK || len(s.Sends) != 0 {
					t.Fatalf("%+v, in the end: %+v", c, s)
				}
			}
		}
	}
}

// P14.1, P14.4: who finds no room, alone: how it ends, and after how many steps.
func TestNoRoom(t *testing.T) {
	for _, c := range []struct {
		name                string
		kind, policy, wait  int
		spin, yield         int
		late                bool
		steps, result, left int
	}{
		{"tries", api.KTrySend, api.Block, api.Busy, 0, 0, false, 4, api.RFull, 5},
		{"tries, and would park", api.KTrySend, api.Block, api.Parking, 0, 0, false, 4, api.RFull, 5},
		{"the new one goes", api.KSend, api.DropNew, api.Parking, 0, 0, false, 4, api.RDropped, 5},
		{"the new one goes, and tries", api.KTrySend, api.DropNew, api.Busy, 0, 0, false, 4, api.RDropped, 5},
		{"the oldest one goes", api.KSend, api.DropOld, api.Parking, 0, 0, false, 10, api.ROK, 6},
		{"the oldest one goes, for who tries", api.KTrySend, api.DropOld, api.Busy, 0, 0, false, 10, api.ROK, 6},
		{"the oldest one goes, for who is late", api.KSendUntil, api.DropOld, api.Busy, 0, 0, true, 10, api.ROK, 6},
		{"it is late", api.KSendUntil, api.Block, api.Busy, 0, 0, true, 4, api.RTimeout, 5},
		{"it is late, and would park", api.KSendUntil, api.Block, api.Parking, 0, 0, true, 4, api.RTimeout, 5},
		{"it is late, and the new one goes", api.KSendUntil, api.DropNew, api.Parking, 0, 0, true, 4, api.RDropped, 5},
		{"it parks", api.KSend, api.Block, api.Parking, 0, 0, false, 6, api.RNone, 5},
		{"it parks until", api.KSendUntil, api.Block, api.Parking, 0, 0, false, 6, api.RNone, 5},
		{"it spins, yields, and parks", api.KSend, api.Block, api.Phased, 3, 2, false, 11, api.RNone, 5},
		{"it parks, of no spins", api.KSend, api.Block, api.Phased, 0, 0, false, 6, api.RNone, 5},
		{"it spins, and parks, longest", api.KSend, api.Block, api.Phased, 8, 8, false, 22, api.RNone, 5},
		{"it spins on", api.KSend, api.Block, api.Busy, 0, 0, false, 1000, api.RNone, 5},
		{"it yields on", api.KSendUntil, api.Block, api.Yielding, 0, 0, false, 1000, api.RNone, 5},
	} {
		s := with(fresh(c.kind, 0), func(s *api.State) {
			s.Config = api.Config{Log: 1, Threads: 3, Policy: c.policy, Wait: c.wait, Spin: c.spin, Yield: c.yield}
			s.Word.Tail, s.Slots[0].Val, s.Slots[1].Val = 2, 5, 6
			s.Threads[0].Late = c.late
		})
		x, n := send.Steps(s, 0, most)
		if n != c.steps || x.Threads[0].Result != c.result || fabric.Queue(x).Vals[0] != c.left || !fabric.Check(x) {
			t.Errorf("%s: %+v, %d", c.name, x, n)
		}
		if waits := c.result == api.RNone; waits == (x.Threads[0].Status == api.TIdle) || waits == (len(x.Sends) == 0) || waits == (len(x.Log) > 0) {
			t.Errorf("%s: %+v", c.name, x)
		}
	}
}

// P14.1: who parked, and is woken, goes on to look, and is in, or parks again.
func TestWoken(t *testing.T) {
	s, n := send.Steps(with(fresh(api.KSendUntil, 0), func(s *api.State) { s.Word.Tail, s.Threads[0].Until = 2, 9 }), 0, most)
	if x := s.Threads[0]; n != 6 || x.Status != api.TParked || x.Pc != 2 || !slices.Equal(s.Full.Line, []int{0}) || !slices.Equal(s.Sends, []int{0}) {
		t.Fatalf("%+v, %d", s, n)
	}
	s.Full = api.Event{Epoch: 1}
	s = fabric.Wake(s, 0)
	again, n := send.Steps(s, 0, most)
	if x := again.Threads[0]; n != 4 || x.Status != api.TParked || x.Seen != 1 || !slices.Equal(again.Full.Line, []int{0}) {
		t.Errorf("no room: %+v, %d", again, n)
	}
	room := with(s, func(s *api.State) { s.Word.Head, s.Slots[0].Stamp = 1, 2 })
	if in, n := send.Steps(room, 0, most); n != 5 || in.Threads[0].Result != api.ROK || !slices.Equal(fabric.Queue(in).Vals, []int{0, 7}) {
		t.Errorf("room: %+v, %d", in, n)
	}
	late := with(s, func(s *api.State) { s.Threads[0].Late = true })
	if out, n := send.Steps(late, 0, most); n != 2 || out.Threads[0].Result != api.RTimeout || len(out.Sends) != 0 {
		t.Errorf("late: %+v, %d", out, n)
	}
}

// P14.1: who stands first sends, who stands behind goes on when it has left.
func TestOneBehindTheOther(t *testing.T) {
	s, _ := fabric.New(api.Config{Log: 2, Threads: 3})
	for id := range 3 {
		s, _ = fabric.Invoke(s, id, api.KSend, 10+id, 0)
	}
	for _, id := range []int{2, 0, 1} {
		s = send.Step(s, id)
	}
	if !slices.Equal(s.Sends, []int{2, 0, 1}) {
		t.Fatalf("%+v", s.Sends)
	}
	for n, id := range []int{2, 0, 1} {
		for _, behind := range []int{2, 0, 1}[n+1:] {
			x, often := send.Steps(s, behind, 50)
			if often != 50 || x.Threads[behind].Pc != 1 || x.Threads[behind].Tries != s.Threads[behind].Tries+50 || x.Word != s.Word {
				t.Fatalf("%d: %+v", behind, x)
			}
		}
		s, _ = send.Steps(s, id, most)
	}
	if !slices.Equal(fabric.Queue(s).Vals, []int{12, 10, 11}) || len(s.Sends) != 0 || s.Empty.Epoch != 3 {
		t.Errorf("%+v", s)
	}
}

// told is what a log tells that is there: what came in, less what went.
func told(l []api.Entry) []int {
	var vals []int
	for _, e := range l {
		switch {
		case e.Kind == api.KEvict:
			vals = vals[1:]
		case e.Result == api.ROK:
			vals = append(vals, e.Val)
		}
	}
	return vals
}

// P14.4: of all scripts of so many steps of two who send, each of all policies: what was told is what is there, what may be stays so, and one thing changes at most.
func TestScripts(t *testing.T) {
	for policy := range 3 {
		s, _ := fabric.New(api.Config{Log: 1, Threads: 2, Policy: policy, Wait: api.Parking})
		s, _ = fabric.Invoke(s, 0, api.KSend, 10, 0)
		s, _ = send.Steps(s, 0, most)
		s, _ = fabric.Invoke(s, 0, api.KSend, 20, 0)
		s, _ = fabric.Invoke(s, 1, api.KTrySend, 30, 0)
		ends := map[[2]int]bool{}
		var play func(s api.State, left int)
		play = func(s api.State, left int) {
			if !fabric.Check(s) || !slices.Equal(fabric.Queue(s).Vals, told(s.Log)) {
				t.Fatalf("policy %d: %+v", policy, s)
			}
			if left == 0 || s.Threads[0].Status != api.TRuns && s.Threads[1].Status != api.TRuns {
				ends[[2]int{s.Threads[0].Result, s.Threads[1].Result}] = true
				return
			}
			for id := range 2 {
				if x := send.Step(s, id); shared(s, x) > 1 {
					t.Fatalf("policy %d: %+v, of %+v", policy, x, s)
				} else if !same(x, s) {
					play(x, left-1)
				}
			}
		}
		play(s, 18)
		for _, end := range [][2]int{{api.ROK, []int{api.RFull, api.RDropped, api.ROK}[policy]}, {api.ROK, api.RNone}, {api.RNone, api.ROK}} {
			if !ends[end] {
				t.Errorf("policy %d: %v is none of %v", policy, end, ends)
			}
		}
	}
}

// R1: lists far longer than may be, and a log that is long.
func TestLong(t *testing.T) {
	long := make([]int, 1_000_000)
	for name, by := range map[string]func(s *api.State){
		"slots":   func(s *api.State) { s.Slots = make([]api.Slot, 1_000_000) },
		"threads": func(s *api.State) { s.Threads = make([]api.Thread, 1_000_000) },
		"sends":   func(s *api.State) { s.Sends = long },
		"recvs":   func(s *api.State) { s.Recvs = long },
		"full":    func(s *api.State) { s.Full.Line = long },
		"empty":   func(s *api.State) { s.Empty.Line = long },
	} {
		s := with(lived(), by)
		if x, n := send.Steps(s, 2, most); n != 0 || !same(x, s) {
			t.Errorf("%s: %d", name, n)
		}
	}
	s := with(lived(), func(s *api.State) { s.Log = make([]api.Entry, 1_000_000) })
	if x, n := send.Steps(s, 2, most); n != 3 || len(x.Log) != 1_000_001 {
		t.Errorf("a long log: %d, %d", n, len(x.Log))
	}
}

// spare is a list with room behind it, in which something stands.
func spare[T any](l []T, behind T) []T {
	m := slices.Grow(slices.Clone(l), 4)
	for n := range m[:cap(m)][len(m):] {
		m[:cap(m)][len(m)+n] = behind
	}
	return m
}

// roomy is a state in which all lists have room behind them.
func roomy(s api.State) api.State {
	s.Slots = spare(s.Slots, api.Slot{Stamp: -77})
	s.Threads, s.Log = spare(s.Threads, api.Thread{Val: -77}), spare(s.Log, api.Entry{Val: -77})
	s.Sends, s.Recvs = spare(s.Sends, -77), spare(s.Recvs, -77)
	s.Full.Line, s.Empty.Line = spare(s.Full.Line, -77), spare(s.Empty.Line, -77)
	return s
}

// whole is a state with all that stands in the room behind its lists.
func whole(s api.State) api.State {
	s.Slots, s.Threads, s.Log = s.Slots[:cap(s.Slots)], s.Threads[:cap(s.Threads)], s.Log[:cap(s.Log)]
	s.Sends, s.Recvs = s.Sends[:cap(s.Sends)], s.Recvs[:cap(s.Recvs)]
	s.Full.Line, s.Empty.Line = s.Full.Line[:cap(s.Full.Line)], s.Empty.Line[:cap(s.Empty.Line)]
	return s
}

// fill writes one thing all over a list.
func fill[T any](l []T, x T) {
	for n := range l {
		l[n] = x
	}
}

// spoil writes all over what a state has, and over the room behind it.
func spoil(s api.State) {
	s = whole(s)
	fill(s.Slots, api.Slot{Stamp: -99, Val: -99})
	fill(s.Threads, api.Thread{Val: -99})
	fill(s.Log, api.Entry{Val: -99})
	for _, l := range [][]int{s.Sends, s.Recvs, s.Full.Line, s.Empty.Line} {
		fill(l, -99)
	}
}

// at has states in which the sender is at each step, with its thread; and some in which it does not send.
func at() []api.State {
	var l []api.State
	for pc := range 12 {
		s := with(lived(), func(s *api.State) { s.Threads[2].Pc = pc })
		l = append(l, s,
			with(s, func(s *api.State) { s.Word.Tail = 10 }),
			with(s, func(s *api.State) { s.Word.Tail, s.Config.Policy, s.Threads[2].Reg = 10, api.DropOld, 6 }),
			with(s, func(s *api.State) { s.Word.Mode = api.Halted }))
	}
	return append(l, with(lived(), func(s *api.State) { s.Threads[2].Status = api.TParked }), with(lived(), func(s *api.State) { s.Now = -1 }), api.State{})
}

// answers has all states that are answered of one.
func answers(s api.State) []api.State {
	l := []api.State{}
	for _, id := range []int{-1, 0, 1, 2, 3, 4} {
		l = append(l, send.Step(s, id))
		for _, many := range []int{-1, 0, 1, 2, 9} {
			x, _ := send.Steps(s, id, many)
			l = append(l, x)
		}
	}
	return l
}

// R3: what is handed in is neither changed nor kept, its spare room included.
func TestHandedIn(t *testing.T) {
	for n, from := range at() {
		s := roomy(from)
		was := apart(whole(s))
		is := []api.State{}
		for _, x := range answers(s) {
			is = append(is, apart(x))
			spoil(x)
			if !same(whole(s), was) {
				t.Fatalf("%d: what was handed in is %+v, not %+v", n, whole(s), was)
			}
		}
		l := answers(s)
		spoil(s)
		for m, x := range l {
			if !same(x, is[m]) {
				t.Fatalf("%d, %d: what was handed in is kept: %+v, not %+v", n, m, x, is[m])
			}
		}
	}
}

// R3: no two lists of one answer share memory, though those handed in do.
func TestShareNothing(t *testing.T) {
	one := []int{2, 3, 1, 0}
	for n, from := range at() {
		for _, by := range []func(s *api.State){
			func(s *api.State) { s.Sends, s.Recvs, s.Full.Line, s.Empty.Line = one, one, one, one },
			func(s *api.State) { s.Sends, s.Recvs, s.Full.Line, s.Empty.Line = one[:1], one[1:2], one[3:], one[1:] },
			func(s *api.State) { s.Sends, s.Recvs, s.Full.Line, s.Empty.Line = one[:0], one[:0], one[:0], one },
		} {
			for m, x := range answers(with(from, by)) {
				lists := [][]int{x.Sends, x.Recvs, x.Full.Line, x.Empty.Line}
				for a, l := range lists {
					was := apart(x)
					fill(l[:cap(l)], -99)
					for b, other := range [][]int{was.Sends, was.Recvs, was.Full.Line, was.Empty.Line} {
						if a != b && !slices.Equal(other, lists[b]) {
							t.Fatalf("%d, %d: lists %d and %d share memory", n, m, a, b)
						}
						copy(lists[b], other)
					}
				}
			}
			if !slices.Equal(one, []int{2, 3, 1, 0}) {
				t.Fatalf("%d: %v", n, one)
			}
		}
	}
}

// R4: the same is answered of the same, in whatever order it is asked, whatever room is behind, and however goroutines run.
func TestSameAnswers(t *testing.T) {
	l := at()
	asked := [][]api.State{}
	for _, s := range l {
		asked = append(asked, answers(s))
	}
	var group sync.WaitGroup
	for n := range 8 {
		group.Go(func() {
			for m := range l {
				m = (m*5 + n) % len(l)
				s := l[m]
				if n%2 == 1 {
					s = roomy(s)
				}
				if !slices.EqualFunc(answers(s), asked[m], same) {
					t.Errorf("of %+v another answer", l[m])
				}
			}
		})
	}
	group.Wait()
}
