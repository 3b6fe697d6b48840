package recv_test

import (
	"slices"
	"sync"
	"testing"

	"sakia/api"
	"sakia/fabric"
	"sakia/recv"
	"sakia/send"
)

const (
	most  = 1<<63 - 1
	least = -1 << 63
	last  = 1 << 40
)

// ids are numbers of threads, beside them, and far outside.
var ids = []int{least, -1 << 41, -2, -1, 0, 1, 2, 3, 4, 15, 16, 1 << 32, 1<<32 + 1, most}

// change makes of a state another one.
type change struct {
	name string
	by   func(s *api.State)
}

// ring has the slots of a ring in which all that is there was written, and all else is released.
func ring(room, head int) []api.Slot {
	l := make([]api.Slot, room)
	for p := head; p < head+room; p++ {
		l[p%room] = api.Slot{Stamp: p, Val: 500 + p}
	}
	return l
}

// fresh is a fabric of room 2, empty, of three threads, of which thread 0 receives, and is at that step.
func fresh(kind, pc int) api.State {
	s := api.State{
		Config:  api.Config{Log: 1, Threads: 3, Wait: api.Parking},
		Slots:   []api.Slot{{Val: 50}, {Stamp: 1, Val: 60}},
		Threads: make([]api.Thread, 3),
	}
	s.Threads[0] = api.Thread{Status: api.TRuns, Kind: kind, Val: 7, Pc: pc}
	if pc > 0 {
		s.Recvs = []int{0}
	}
	return s
}

// lived is a fabric of room 4, three of it taken, in which all lists have something, and thread 2 receives.
func lived() api.State {
	return api.State{
		Config: api.Config{Log: 2, Threads: 4, Wait: api.Phased, Spin: 2, Yield: 1},
		Word:   api.Word{Head: 6, Tail: 9},
		Slots:  []api.Slot{{Stamp: 8, Val: 80}, {Stamp: 9, Val: 90}, {Stamp: 6, Val: 60}, {Stamp: 7, Val: 70}},
		Sends:  []int{1, 3}, Recvs: []int{2, 0},
		Full: api.Event{Epoch: 5, Line: []int{1, 3}}, Empty: api.Event{Epoch: 3, Line: []int{0}},
		Now: 12,
		Threads: []api.Thread{
			{Status: api.TParked, Kind: api.KRecvUntil, Val: 100, Until: 20, Pc: 2, Reg: 5, Seen: 3},
			{Status: api.TParked, Kind: api.KSend, Val: 101, Pc: 2, Seen: 5},
			{Status: api.TRuns, Kind: api.KRecv, Val: 102, Pc: 3, Reg: 6, Seen: 3, Tries: 1},
			{Status: api.TParked, Kind: api.KSendUntil, Val: 103, Until: 30, Pc: 2, Seen: 5},
		},
		Log: []api.Entry{{Thread: 3, Kind: api.KTrySend, Val: 103, Result: api.ROK, Got: 50}},
	}
}

// ended is a fabric at its upper bounds, of which thread 1 receives.
func ended() api.State {
	return api.State{
		Config: api.Config{Log: 1, Threads: 2, Policy: api.DropOld, Wait: api.Yielding},
		Word:   api.Word{Head: last - 2, Tail: last},
		Slots:  []api.Slot{{Stamp: last - 2, Val: most}, {Stamp: last - 1, Val: least}},
		Recvs:  []int{1},
		Full:   api.Event{Epoch: last},
		Empty:  api.Event{Epoch: last, Line: []int{0}},
		Now:    last,
		Threads: []api.Thread{
			{},
			{Status: api.TRuns, Kind: api.KRecvUntil, Val: most, Until: last, Pc: 4, Reg: last - 2, Seen: last, Tries: last, Late: true, Result: api.RHalted, Got: most},
		},
		Log: []api.Entry{{Thread: -1, Kind: least, Val: most, Result: 99, Got: most}},
	}
}

// apart is a state that shares no memory with another one.
func apart(s api.State) api.State {
	s.Slots, s.Threads, s.Log = slices.Clone(s.Slots), slices.Clone(s.Threads), slices.Clone(s.Log)
	s.Sends, s.Recvs = slices.Clone(s.Sends), slices.Clone(s.Recvs)
	s.Full.Line, s.Empty.Line = slices.Clone(s.Full.Line), slices.Clone(s.Empty.Line)
	return s
}

// with is a state that is changed.
func with(s api.State, by ...func(s *api.State)) api.State {
	s = apart(s)
	for _, f := range by {
		f(&s)
	}
	return s
}

// same tells whether two states have the same in them.
func same(a, b api.State) bool {
	return a.Config == b.Config && a.Word == b.Word && a.Now == b.Now &&
		slices.Equal(a.Slots, b.Slots) && slices.Equal(a.Threads, b.Threads) && slices.Equal(a.Log, b.Log) &&
		slices.Equal(a.Sends, b.Sends) && slices.Equal(a.Recvs, b.Recvs) && alike(a.Full, b.Full) && alike(a.Empty, b.Empty)
}

// alike tells whether two events have the same in them.
func alike(a, b api.Event) bool {
	return a.Epoch == b.Epoch && slices.Equal(a.Line, b.Line)
}

// receives is what the chapter says of which threads receive.
func receives(s api.State, id int) bool {
	if !fabric.Check(s) || id < 0 || id >= len(s.Threads) {
		return false
	}
	kind := s.Threads[id].Kind
	return s.Threads[id].Status == 1 && (kind == 4 || kind == 5 || kind == 6)
}

// tell is what the chapter says of what is told.
func tell(s *api.State, id, result, got, pc int) {
	t := &s.Threads[id]
	s.Log = append(s.Log, api.Entry{Thread: id, Kind: t.Kind, Val: t.Val, Result: result, Got: got})
	t.Result, t.Got, t.Pc = result, got, pc
}

// parks tells whether who looked in vain so often parks.
func parks(c api.Config, tries int) bool {
	return c.Wait == 3 || c.Wait == 2 && tries >= c.Spin+c.Yield
}

// looked is what the chapter says of the step at Pc 2.
func looked(s *api.State, id int) {
	t := &s.Threads[id]
	switch {
	case s.Word.Mode == 2:
		tell(s, id, 7, 0, 9)
	case s.Word.Head < s.Word.Tail:
		t.Pc = 3
	case s.Word.Mode == 1:
		tell(s, id, 6, 0, 9)
	case t.Kind == 5:
		tell(s, id, 4, 0, 9)
	case t.Late:
		tell(s, id, 5, 0, 9)
	case parks(s.Config, t.Tries):
		t.Pc = 5
	default:
		t.Tries = min(t.Tries+1, last)
	}
}

// taken is what the chapter says of the step at Pc 3.
func taken(s *api.State, id int) {
	t, p := &s.Threads[id], s.Word.Head
	switch {
	case s.Word.Mode == 2:
		tell(s, id, 7, 0, 9)
	case p < s.Word.Tail:
		s.Word.Head, t.Reg = p+1, p
		tell(s, id, 1, s.Slots[p%len(s.Slots)].Val, 4)
	case s.Word.Mode == 1:
		tell(s, id, 6, 0, 9)
	default:
		t.Pc = 2
	}
}

// step is what the chapter says of a step.
func step(s api.State, id int) api.State {
	if !receives(s, id) {
		return s
	}
	s = apart(s)
	t, n := &s.Threads[id], len(s.Slots)
	switch t.Pc {
	case 0:
		if !slices.Contains(s.Recvs, id) {
			s.Recvs = append(s.Recvs, id)
		}
		t.Pc = 1
	case 1:
		switch {
		case len(s.Recvs) > 0 && s.Recvs[0] == id:
			t.Pc = 2
		case t.Late:
			tell(&s, id, 5, 0, 9)
		default:
			t.Tries = min(t.Tries+1, last)
		}
	case 2:
		looked(&s, id)
	case 3:
		taken(&s, id)
	case 4:
		t.Got, t.Pc = 0, 6
		if x := &s.Slots[t.Reg%n]; x.Stamp == t.Reg {
			t.Got = x.Val
			x.Stamp += n
		}
	case 5:
		t.Seen, t.Pc = s.Empty.Epoch, 7
	case 6:
		s.Full.Epoch, t.Pc = min(s.Full.Epoch+1, last), 9
		if len(s.Full.Line) > 0 {
			if first := &s.Threads[s.Full.Line[0]]; first.Status == 2 {
				first.Status = 1
			}
			s.Full.Line = s.Full.Line[1:]
		}
	case 7:
		t.Pc = 2
		if s.Word.Mode == 0 && s.Word.Head == s.Word.Tail && !t.Late {
			t.Pc = 8
		}
	case 8:
		t.Pc = 2
		if !t.Late && s.Empty.Epoch == t.Seen && !slices.Contains(s.Empty.Line, id) {
			s.Empty.Line = append(s.Empty.Line, id)
			t.Status, t.Tries = 2, 0
		}
	default:
		s.Recvs = slices.DeleteFunc(s.Recvs, func(x int) bool { return x == id })
		*t = api.Thread{Kind: t.Kind, Val: t.Val, Until: t.Until, Result: t.Result, Got: t.Got}
	}
	return s
}

// changes has what may be done to states, such that a step of a thread does something else.
func changes(id int) []change {
	of := func(f func(t *api.Thread)) func(s *api.State) {
		return func(s *api.State) { f(&s.Threads[id]) }
	}
	l := []change{
		{"nothing", func(s *api.State) {}},
		{"empty", func(s *api.State) { s.Word.Head = s.Word.Tail }},
		{"one is there", func(s *api.State) { s.Word.Tail = s.Word.Head + 1 }},
		{"full", func(s *api.State) { s.Word.Tail = s.Word.Head + len(s.Slots) }},
		{"the last one", func(s *api.State) { s.Word.Head, s.Word.Tail = last-1, last }},
		{"at the end, empty", func(s *api.State) { s.Word.Head, s.Word.Tail = last, last }},
		{"draining", func(s *api.State) { s.Word.Mode = api.Draining }},
		{"halted", func(s *api.State) { s.Word.Mode = api.Halted }},
		{"no such mode", func(s *api.State) { s.Word.Mode = 3 }},
		{"more than full", func(s *api.State) { s.Word.Tail = s.Word.Head + len(s.Slots) + 1 }},
		{"slots at first", func(s *api.State) { s.Slots = ring(len(s.Slots), 0) }},
		{"slots a lap later", func(s *api.State) { s.Slots = ring(len(s.Slots), s.Word.Head+len(s.Slots)) }},
		{"slots of what is there", func(s *api.State) { s.Slots = ring(len(s.Slots), s.Word.Head) }},
		{"slots turned", func(s *api.State) { slices.Reverse(s.Slots) }},
		{"slots at their end", func(s *api.State) { s.Slots = ring(len(s.Slots), 2*last-len(s.Slots)) }},
		{"nobody receives", func(s *api.State) { s.Recvs = nil }},
		{"it stands first", func(s *api.State) { s.Recvs = []int{id, id ^ 1} }},
		{"it stands second", func(s *api.State) { s.Recvs = []int{id ^ 1, id} }},
		{"it stands alone", func(s *api.State) { s.Recvs = []int{id} }},
		{"another one stands", func(s *api.State) { s.Recvs = []int{id ^ 1} }},
		{"it stands with who send", func(s *api.State) { s.Sends = []int{id, id ^ 1} }},
		{"it waits for something", func(s *api.State) { s.Empty.Line = []int{id ^ 1, id} }},
		{"another one waits for something", func(s *api.State) { s.Empty.Line = []int{id ^ 1} }},
		{"nobody waits for something", func(s *api.State) { s.Empty.Line = nil }},
		{"it waits for room", func(s *api.State) { s.Full.Line = []int{id, id ^ 1} }},
		{"another one waits for room", func(s *api.State) { s.Full.Line = []int{id ^ 1, id} }},
		{"nobody waits for room", func(s *api.State) { s.Full.Line = nil }},
		{"events that never came", func(s *api.State) { s.Full.Epoch, s.Empty.Epoch = 0, 0 }},
		{"events that came most often", func(s *api.State) { s.Full.Epoch, s.Empty.Epoch = last, last }},
		{"events that came too often", func(s *api.State) { s.Full.Epoch = last + 1 }},
		{"nothing was told", func(s *api.State) { s.Log = nil }},
		{"no time", func(s *api.State) { s.Now = -1 }},
		{"thread 0 alone receives", func(s *api.State) { s.Config.Single = true }},
		{"another one is idle", func(s *api.State) { s.Threads[id^1] = api.Thread{Kind: api.KHalt, Result: api.ROK} }},
		{"it tries", of(func(t *api.Thread) { t.Kind, t.Until, t.Late = api.KTryRecv, 0, false })},
		{"it waits", of(func(t *api.Thread) { t.Kind, t.Until, t.Late = api.KRecv, 0, false })},
		{"it waits until", of(func(t *api.Thread) { t.Kind, t.Until, t.Late = api.KRecvUntil, 9, false })},
		{"it is late", of(func(t *api.Thread) { t.Kind, t.Until, t.Late = api.KRecvUntil, 9, true })},
		{"it is late, and does not wait until", of(func(t *api.Thread) { t.Kind, t.Until, t.Late = api.KRecv, 0, true })},
		{"it sends", of(func(t *api.Thread) { t.Kind, t.Until, t.Late = api.KSend, 0, false })},
		{"it drains", of(func(t *api.Thread) { t.Kind, t.Until, t.Late = api.KDrain, 0, false })},
		{"it lets go", of(func(t *api.Thread) { t.Kind, t.Until, t.Late = api.KEvict, 0, false })},
		{"it is parked", of(func(t *api.Thread) { t.Status = api.TParked })},
		{"it is idle", of(func(t *api.Thread) { *t = api.Thread{Kind: t.Kind, Val: t.Val, Until: t.Until} })},
		{"it saw something come", func(s *api.State) { s.Threads[id].Seen = s.Empty.Epoch }},
		{"it saw less come", func(s *api.State) { s.Threads[id].Seen = s.Empty.Epoch - 1 }},
		{"it saw nothing", of(func(t *api.Thread) { t.Seen = -1 })},
		{"it got something", of(func(t *api.Thread) { t.Result, t.Got = api.ROK, 44 })},
		{"a result that may not be", of(func(t *api.Thread) { t.Result = 8 })},
		{"it is at the head", func(s *api.State) { s.Threads[id].Reg = s.Word.Head }},
		{"it is ahead of the head", func(s *api.State) { s.Threads[id].Reg = max(s.Word.Head-1, 0) }},
	}
	for _, n := range []int{0, 1, last - 1, last, last + 1} {
		l = append(l, change{"Reg", of(func(t *api.Thread) { t.Reg = n })})
	}
	for _, n := range []int{0, 2, 3, 4, last - 1, last} {
		l = append(l, change{"Tries", of(func(t *api.Thread) { t.Tries = n })})
	}
	for _, c := range []api.Config{{}, {Wait: api.Yielding}, {Wait: api.Phased}, {Wait: api.Phased, Spin: 1, Yield: 8}, {Wait: api.Parking}, {Spin: 1}} {
		for policy := range 3 {
			l = append(l, change{"Policy, and Wait", func(s *api.State) {
				c.Log, c.Threads, c.Policy = s.Config.Log, s.Config.Threads, policy
				s.Config = c
			}})
		}
	}
	return l
}

// sorts goes through states of all sorts: all that two changes make, of each root, with the receiver at each step there is.
func sorts(yield func(s api.State, id int, names ...string)) {
	for _, root := range []struct {
		s  api.State
		id int
	}{{fresh(api.KRecv, 1), 0}, {lived(), 2}, {ended(), 1}} {
		l := changes(root.id)
		for _, a := range l {
			for _, b := range l {
				s := with(root.s, a.by, b.by)
				for pc := range 12 {
					if s.Threads[root.id].Status != api.TIdle {
						s.Threads[root.id].Pc = pc
					}
					yield(s, root.id, a.name, b.name)
				}
			}
		}
	}
}

// P15.1: each step, as the words of the chapter say it, and P15.4: what may be stays so.
func TestStepAsTheWordsSay(t *testing.T) {
	received, at := 0, [12]int{}
	sorts(func(s api.State, id int, names ...string) {
		x, want := recv.Step(s, id), step(s, id)
		if !same(x, want) {
			t.Fatalf("%v: Step(%+v, %d) = %+v, not %+v", names, s, id, x, want)
		}
		if fabric.Check(x) != fabric.Check(s) {
			t.Fatalf("%v: %+v, of %+v, may not be", names, x, s)
		}
		if receives(s, id) {
			received++
			at[s.Threads[id].Pc]++
		}
	})
	if received < 80_000 || slices.Min(at[:]) < 6_000 {
		t.Errorf("only %d received, %v", received, at)
	}
}

// shared counts what threads share that two states differ in.
func shared(a, b api.State) int {
	many := 0
	for _, differs := range []bool{a.Word != b.Word, !slices.Equal(a.Sends, b.Sends), !slices.Equal(a.Recvs, b.Recvs), !alike(a.Full, b.Full), !alike(a.Empty, b.Empty)} {
		if differs {
			many++
		}
	}
	for n := range a.Slots {
		if a.Slots[n] != b.Slots[n] {
			many++
		}
	}
	return many
}

// P15.4: no step changes more than one thing; what is not the receiver's stays, but for whom it wakes.
func TestOneThing(t *testing.T) {
	sorts(func(s api.State, id int, names ...string) {
		if !receives(s, id) {
			return
		}
		x, pc := recv.Step(s, id), s.Threads[id].Pc
		if n := shared(s, x); n > 1 {
			t.Fatalf("%v: %d things: %+v, of %+v", names, n, x, s)
		}
		if x.Config != s.Config || x.Now != s.Now || !slices.Equal(x.Sends, s.Sends) || len(x.Threads) != len(s.Threads) {
			t.Fatalf("%v: %+v, of %+v", names, x, s)
		}
		told := len(x.Log) - len(s.Log)
		if told < 0 || told > 1 || !slices.Equal(x.Log[:len(s.Log)], s.Log) || told == 1 && x.Log[len(s.Log)].Thread != id {
			t.Fatalf("%v: told is %+v, of %+v", names, x.Log, s.Log)
		}
		for n := range s.Threads {
			was := s.Threads[n]
			if pc == 6 && len(s.Full.Line) > 0 && s.Full.Line[0] == n && was.Status == api.TParked {
				was.Status = api.TRuns
			}
			if n != id && x.Threads[n] != was {
				t.Fatalf("%v: thread %d is %+v, of %+v", names, n, x.Threads[n], s.Threads[n])
			}
		}
	})
}

// P15.1: each step, of thread 0, what becomes of it, and of what threads share.
func TestSteps(t *testing.T) {
	is := func(f func(t *api.Thread)) func(s *api.State) { return func(s *api.State) { f(&s.Threads[0]) } }
	told := func(kind, result, got, pc int) func(s *api.State) {
		return func(s *api.State) {
			s.Log = append(s.Log, api.Entry{Kind: kind, Val: 7, Result: result, Got: got})
			s.Threads[0].Result, s.Threads[0].Got, s.Threads[0].Pc = result, got, pc
		}
	}
	pc := func(n int) func(s *api.State) { return is(func(t *api.Thread) { t.Pc = n }) }
	tries := func(n int) func(s *api.State) { return is(func(t *api.Thread) { t.Tries = n }) }
	reg := func(n int) func(s *api.State) { return is(func(t *api.Thread) { t.Reg = n }) }
	got := func(n int) func(s *api.State) { return is(func(t *api.Thread) { t.Got = n }) }
	late := func(s *api.State) { s.Threads[0].Until, s.Threads[0].Late = 9, true }
	word := func(head, tail int) func(s *api.State) {
		return func(s *api.State) { s.Word.Head, s.Word.Tail = head, tail }
	}
	mode := func(n int) func(s *api.State) { return func(s *api.State) { s.Word.Mode = n } }
	stamps := func(a, b int) func(s *api.State) {
		return func(s *api.State) { s.Slots[0].Stamp, s.Slots[1].Stamp = a, b }
	}
	waits := func(n, spin, yield int) func(s *api.State) {
		return func(s *api.State) { s.Config.Wait, s.Config.Spin, s.Config.Yield = n, spin, yield }
	}
	policy := func(n int) func(s *api.State) { return func(s *api.State) { s.Config.Policy = n } }
	line := func(l ...int) func(s *api.State) { return func(s *api.State) { s.Recvs = l } }
	full := func(epoch int, l ...int) func(s *api.State) {
		return func(s *api.State) { s.Full = api.Event{Epoch: epoch, Line: l} }
	}
	empty := func(epoch int, l ...int) func(s *api.State) {
		return func(s *api.State) { s.Empty = api.Event{Epoch: epoch, Line: l} }
	}
	all := func(l ...func(s *api.State)) []func(s *api.State) { return l }
	parked := func(s *api.State) {
		s.Full = api.Event{Epoch: 4, Line: []int{2, 1}}
		s.Threads[1] = api.Thread{Status: api.TParked, Kind: api.KSend, Pc: 2}
		s.Threads[2] = api.Thread{Status: api.TParked, Kind: api.KSendUntil, Until: 3, Pc: 2}
	}
	woken := func(s *api.State) { s.Threads[2].Status = api.TRuns }
	for _, c := range []struct {
		name      string
		kind, pc  int
		from, has []func(s *api.State)
	}{
		{"enters", api.KRecv, 0, nil, all(line(0), pc(1))},
		{"enters behind others", api.KRecv, 0, all(line(2, 1)), all(line(2, 1, 0), pc(1))},
		{"enters where it stands already", api.KRecv, 0, all(line(0, 1)), all(pc(1))},
		{"enters late, and halted", api.KRecvUntil, 0, all(late, mode(2)), all(line(0), pc(1))},
		{"enters though another one alone receives", api.KRecv, 0, all(func(s *api.State) { s.Config.Single = true }), all(line(0), pc(1))},

		{"is the first", api.KRecv, 1, all(line(0, 1)), all(pc(2))},
		{"is the first, and late", api.KRecvUntil, 1, all(late), all(pc(2))},
		{"is the second", api.KRecv, 1, all(line(1, 0)), all(tries(1))},
		{"is the second, and tries", api.KTryRecv, 1, all(line(1, 0)), all(tries(1))},
		{"is the second, and it is halted", api.KRecv, 1, all(line(1, 0), mode(2)), all(tries(1))},
		{"is the second, and tried most often", api.KRecv, 1, all(line(1, 0), tries(last)), nil},
		{"is the second, and tried nearly so often", api.KRecv, 1, all(line(1, 0), tries(last-1)), all(tries(last))},
		{"is the second, and late", api.KRecvUntil, 1, all(line(1, 0), late, got(8)), all(told(6, api.RTimeout, 0, 9))},
		{"is the second, and its time came, but it is not late", api.KRecvUntil, 1, all(line(1, 0), func(s *api.State) { s.Now = 99 }), all(tries(1))},
		{"does not stand there", api.KRecv, 1, all(line()), all(tries(1))},
		{"stands with who send alone", api.KRecv, 1, all(line(), func(s *api.State) { s.Sends = []int{0} }), all(tries(1))},
		{"does not stand there, and is late", api.KRecvUntil, 1, all(line(), late), all(told(6, api.RTimeout, 0, 9))},

		{"sees something", api.KRecv, 2, all(word(0, 1)), all(pc(3))},
		{"sees something, and its Reg stays", api.KRecv, 2, all(word(8, 9), reg(4)), all(pc(3))},
		{"sees something, and tries", api.KTryRecv, 2, all(word(0, 2)), all(pc(3))},
		{"sees something, and is late", api.KRecvUntil, 2, all(word(0, 1), late), all(pc(3))},
		{"sees something, and is not in line", api.KRecv, 2, all(word(0, 1), line(1)), all(pc(3))},
		{"sees something, and it is drained", api.KRecv, 2, all(word(0, 1), mode(1)), all(pc(3))},
		{"sees the last one", api.KRecv, 2, all(word(last-1, last)), all(pc(3))},
		{"sees it drained", api.KRecv, 2, all(mode(1), got(8)), all(told(4, api.RClosed, 0, 9))},
		{"sees it drained, and tries", api.KTryRecv, 2, all(mode(1)), all(told(5, api.RClosed, 0, 9))},
		{"sees it drained, and is late", api.KRecvUntil, 2, all(mode(1), late), all(told(6, api.RClosed, 0, 9))},
		{"sees it halted", api.KRecv, 2, all(mode(2)), all(told(4, api.RHalted, 0, 9))},
		{"sees it halted, with something there", api.KTryRecv, 2, all(mode(2), word(0, 2)), all(told(5, api.RHalted, 0, 9))},
		{"sees it halted, and is late", api.KRecvUntil, 2, all(mode(2), late), all(told(6, api.RHalted, 0, 9))},
		{"tries, and it is empty", api.KTryRecv, 2, all(got(8)), all(told(5, api.REmpty, 0, 9))},
		{"tries, and it is empty, at its end", api.KTryRecv, 2, all(word(last, last), policy(1)), all(told(5, api.REmpty, 0, 9))},
		{"is late, and it is empty", api.KRecvUntil, 2, all(late, policy(2)), all(told(6, api.RTimeout, 0, 9))},
		{"parks", api.KRecv, 2, nil, all(pc(5))},
		{"parks, of DropNew", api.KRecv, 2, all(policy(1)), all(pc(5))},
		{"parks, of DropOld", api.KRecv, 2, all(policy(2)), all(pc(5))},
		{"parks until", api.KRecvUntil, 2, nil, all(pc(5))},
		{"spins", api.KRecv, 2, all(waits(api.Busy, 0, 0), tries(99)), all(tries(100))},
		{"yields", api.KRecv, 2, all(waits(api.Yielding, 0, 0), tries(99)), all(tries(100))},
		{"spins, most often", api.KRecvUntil, 2, all(waits(api.Busy, 0, 0), tries(last)), nil},
		{"spins, and yields later", api.KRecv, 2, all(waits(api.Phased, 2, 1), tries(1)), all(tries(2))},
		{"yields, and parks later", api.KRecv, 2, all(waits(api.Phased, 2, 1), tries(2)), all(tries(3))},
		{"parks in the end", api.KRecv, 2, all(waits(api.Phased, 2, 1), tries(3)), all(pc(5))},
		{"parks, having tried in line", api.KRecv, 2, all(waits(api.Phased, 2, 1), tries(last)), all(pc(5))},

		{"takes", api.KRecv, 3, all(word(0, 1), reg(9)), all(word(1, 1), reg(0), told(4, api.ROK, 50, 4))},
		{"takes the first of two", api.KTryRecv, 3, all(word(1, 3)), all(word(2, 3), reg(1), told(5, api.ROK, 60, 4))},
		{"takes, late", api.KRecvUntil, 3, all(word(4, 5), late), all(word(5, 5), reg(4), told(6, api.ROK, 50, 4))},
		{"takes what lies there, whatever its stamp", api.KRecv, 3, all(word(5, 6), stamps(8, 9)), all(word(6, 6), reg(5), told(4, api.ROK, 60, 4))},
		{"takes the last one", api.KRecv, 3, all(word(last-1, last)), all(word(last, last), reg(last-1), told(4, api.ROK, 60, 4))},
		{"takes, drained", api.KRecv, 3, all(word(0, 2), mode(1)), all(word(1, 2), told(4, api.ROK, 50, 4))},
		{"takes, not in line", api.KRecv, 3, all(word(0, 1), line(1)), all(word(1, 1), told(4, api.ROK, 50, 4))},
		{"does not take, since there is nothing", api.KRecv, 3, all(reg(9), got(8)), all(pc(2))},
		{"does not take, and tries", api.KTryRecv, 3, nil, all(pc(2))},
		{"does not take, and is late", api.KRecvUntil, 3, all(late), all(pc(2))},
		{"does not take, at its end", api.KRecv, 3, all(word(last, last)), all(pc(2))},
		{"does not take, since it is drained", api.KRecv, 3, all(mode(1), reg(9), got(8)), all(told(4, api.RClosed, 0, 9))},
		{"does not take, since it is halted", api.KRecvUntil, 3, all(mode(2), late), all(told(6, api.RHalted, 0, 9))},
		{"does not take what is there, since it is halted", api.KTryRecv, 3, all(mode(2), word(0, 2), reg(9)), all(told(5, api.RHalted, 0, 9))},

		{"reads", api.KRecv, 4, all(got(8)), all(got(50), stamps(2, 1), pc(6))},
		{"reads at its position", api.KTryRecv, 4, all(reg(1)), all(got(60), stamps(0, 3), pc(6))},
		{"reads where it is still there", api.KRecv, 4, all(word(0, 2)), all(got(50), stamps(2, 1), pc(6))},
		{"reads a lap later", api.KRecv, 4, all(reg(5), stamps(4, 5)), all(got(60), stamps(4, 7), pc(6))},
		{"reads, late, and halted", api.KRecvUntil, 4, all(late, mode(2)), all(got(50), stamps(2, 1), pc(6))},
		{"reads what is not its turn any more", api.KRecv, 4, all(stamps(2, 1), got(8)), all(got(0), pc(6))},
		{"reads what is not its turn yet", api.KRecv, 4, all(reg(3), got(8)), all(got(0), pc(6))},
		{"reads at the last position", api.KRecv, 4, all(reg(last), stamps(last, last+1), word(last, last)), all(got(50), stamps(last+2, last+1), pc(6))},
		{"reads, and what was told stays", api.KRecv, 4, all(func(s *api.State) { s.Log = []api.Entry{{Kind: 4, Val: 7, Result: 1, Got: 8}} }, got(8)), all(got(50), stamps(2, 1), pc(6))},

		{"sees how often something came", api.KRecv, 5, all(empty(4), full(6)), all(is(func(t *api.Thread) { t.Seen = 4 }), pc(7))},
		{"sees how often something came, and is late", api.KRecvUntil, 5, all(late, func(s *api.State) { s.Threads[0].Seen = 9 }), all(is(func(t *api.Thread) { t.Seen = 0 }), pc(7))},

		{"tells nobody that room came", api.KRecv, 6, nil, all(full(1), pc(9))},
		{"tells nobody, though others are parked", api.KRecv, 6, all(parked, full(4)), all(full(5), pc(9))},
		{"tells none of those that wait for something", api.KRecv, 6, all(parked, full(4), empty(3, 1)), all(full(5), pc(9))},
		{"wakes the first one", api.KRecv, 6, all(parked), all(full(5, 1), woken, pc(9))},
		{"wakes the first one, late, and its result stays", api.KRecvUntil, 6, all(parked, late, is(func(t *api.Thread) { t.Result, t.Got = 1, 8 })), all(full(5, 1), woken, pc(9))},
		{"tells one that is idle", api.KRecv, 6, all(full(0, 1, 2)), all(full(1, 2), pc(9))},
		{"tells itself", api.KRecv, 6, all(full(0, 0)), all(full(1), pc(9))},
		{"room came most often", api.KRecv, 6, all(parked, full(last, 2, 1)), all(full(last, 1), woken, pc(9))},

		{"looks again, and there is nothing", api.KRecv, 7, nil, all(pc(8))},
		{"looks again, until", api.KRecvUntil, 7, nil, all(pc(8))},
		{"looks again, at its end", api.KRecv, 7, all(word(last, last)), all(pc(8))},
		{"looks again, and there is something", api.KRecv, 7, all(word(0, 1)), all(pc(2))},
		{"looks again, and it is drained", api.KRecv, 7, all(mode(1)), all(pc(2))},
		{"looks again, and it is halted", api.KRecv, 7, all(mode(2)), all(pc(2))},
		{"looks again, and is late", api.KRecvUntil, 7, all(late), all(pc(2))},

		{"waits", api.KRecv, 8, all(tries(3), empty(0, 2)), all(empty(0, 2, 0), is(func(t *api.Thread) { t.Status, t.Pc, t.Tries = api.TParked, 2, 0 }))},
		{"waits until", api.KRecvUntil, 8, all(reg(9), got(8)), all(empty(0, 0), is(func(t *api.Thread) { t.Status, t.Pc = api.TParked, 2 }))},
		{"waits, though something is there, and room came", api.KRecv, 8, all(word(0, 1), mode(2), full(1)), all(empty(0, 0), is(func(t *api.Thread) { t.Status, t.Pc = api.TParked, 2 }))},
		{"waits, having seen what came most often", api.KRecv, 8, all(empty(last), is(func(t *api.Thread) { t.Seen = last })), all(empty(last, 0), is(func(t *api.Thread) { t.Status, t.Pc = api.TParked, 2 }))},
		{"does not wait, since something came", api.KRecv, 8, all(tries(3), empty(1)), all(pc(2))},
		{"does not wait, since it saw what is not", api.KRecv, 8, all(func(s *api.State) { s.Threads[0].Seen = -1 }), all(pc(2))},
		{"does not wait, since it is late", api.KRecvUntil, 8, all(late, tries(3)), all(pc(2))},
		{"does not wait, since it waits there already", api.KRecv, 8, all(empty(0, 0, 1)), all(pc(2))},

		{"leaves", api.KRecv, 9, all(line(0, 2), is(func(t *api.Thread) { t.Reg, t.Seen, t.Tries, t.Result, t.Got = 3, 4, 5, 6, 7 })),
			all(line(2), is(func(t *api.Thread) { *t = api.Thread{Kind: api.KRecv, Val: 7, Result: 6, Got: 7} }))},
		{"leaves those ahead", api.KRecvUntil, 9, all(line(2, 0, 1), late), all(line(2, 1), is(func(t *api.Thread) { *t = api.Thread{Kind: api.KRecvUntil, Val: 7, Until: 9} }))},
		{"leaves where it does not stand", api.KTryRecv, 9, all(line(1)), all(is(func(t *api.Thread) { *t = api.Thread{Kind: api.KTryRecv, Val: 7} }))},
		{"leaves, and stays where it sends, or waits", api.KRecv, 9, all(func(s *api.State) { s.Sends = []int{0} }, full(1, 0), empty(1, 0)),
			all(line(), is(func(t *api.Thread) { *t = api.Thread{Kind: api.KRecv, Val: 7} }))},
		{"leaves from the step behind", api.KRecv, 10, all(line(0, 2), is(func(t *api.Thread) { t.Reg, t.Result, t.Got = 3, 1, 7 })),
			all(line(2), is(func(t *api.Thread) { *t = api.Thread{Kind: api.KRecv, Val: 7, Result: 1, Got: 7} }))},
		{"leaves from the last step", api.KRecvUntil, 11, all(line(2, 0), late, word(0, 2)), all(line(2), is(func(t *api.Thread) { *t = api.Thread{Kind: api.KRecvUntil, Val: 7, Until: 9} }))},
	} {
		s := with(fresh(c.kind, c.pc), c.from...)
		if !fabric.Check(s) {
			t.Errorf("%s: %+v may not be", c.name, s)
		}
		want := with(s, c.has...)
		if x := recv.Step(s, 0); !same(x, want) {
			t.Errorf("%s: %+v, not %+v", c.name, x, want)
		}
		if x, n := recv.Steps(s, 0, 1); n != 1 || !same(x, want) {
			t.Errorf("%s, as one of some: %+v, %d", c.name, x, n)
		}
	}
}

// P15.1, P15.2, R1: who does not receive does nothing, whatever it is.
func TestOthers(t *testing.T) {
	stays := func(name string, s api.State, id int) {
		t.Helper()
		if x := recv.Step(s, id); !same(x, s) {
			t.Errorf("%s: Step of %d: %+v, of %+v", name, id, x, s)
		}
		for _, many := range []int{least, 0, 1, 5, most} {
			if x, n := recv.Steps(s, id, many); n != 0 || !same(x, s) {
				t.Errorf("%s: Steps of %d, %d: %+v, %d, of %+v", name, id, many, x, n, s)
			}
		}
	}
	for _, id := range ids {
		if id != 2 {
			stays("another one receives", lived(), id)
		}
	}
	for _, c := range []change{
		{"it is idle", func(s *api.State) { s.Threads[2] = api.Thread{Kind: api.KRecv} }},
		{"it did nothing yet", func(s *api.State) { s.Threads[2] = api.Thread{} }},
		{"it is parked", func(s *api.State) { s.Threads[2].Status = api.TParked }},
		{"it sends", func(s *api.State) { s.Threads[2].Kind = api.KSend }},
		{"it tries to send", func(s *api.State) { s.Threads[2].Kind = api.KTrySend }},
		{"it sends until", func(s *api.State) { s.Threads[2].Kind = api.KSendUntil }},
		{"it drains", func(s *api.State) { s.Threads[2].Kind = api.KDrain }},
		{"it halts", func(s *api.State) { s.Threads[2].Kind = api.KHalt }},
		{"it lets go", func(s *api.State) { s.Threads[2].Kind = api.KEvict }},
		{"it does nothing, and runs", func(s *api.State) { s.Threads[2].Kind = 0 }},
		{"no such kind", func(s *api.State) { s.Threads[2].Kind = 1<<32 + 4 }},
		{"no such status", func(s *api.State) { s.Threads[2].Status = 3 }},
		{"a step below", func(s *api.State) { s.Threads[2].Pc = -1 }},
		{"a step above", func(s *api.State) { s.Threads[2].Pc = 12 }},
		{"a step far above", func(s *api.State) { s.Threads[2].Pc = most }},
		{"a position below", func(s *api.State) { s.Threads[2].Pc, s.Threads[2].Reg = 4, -1 }},
		{"a position above", func(s *api.State) { s.Threads[2].Pc, s.Threads[2].Reg = 4, last+1 }},
		{"it tried too often", func(s *api.State) { s.Threads[2].Pc, s.Threads[2].Tries = 2, last+1 }},
		{"late, though there is no time", func(s *api.State) { s.Threads[2].Late = true }},
		{"no configuration", func(s *api.State) { s.Config = api.Config{} }},
		{"no slots", func(s *api.State) { s.Slots = nil }},
		{"slots of another room", func(s *api.State) { s.Slots = ring(2, 0) }},
		{"no threads", func(s *api.State) { s.Threads = nil }},
		{"a thread less", func(s *api.State) { s.Threads = s.Threads[:3] }},
		{"another one may not be", func(s *api.State) { s.Threads[3].Kind = 77 }},
		{"it stands there twice", func(s *api.State) { s.Recvs = []int{2, 2} }},
		{"none that is a thread stands there", func(s *api.State) { s.Empty.Line = []int{4} }},
		{"room came too often", func(s *api.State) { s.Full.Epoch = last + 1 }},
		{"far behind all time", func(s *api.State) { s.Now = most }},
		{"no such mode", func(s *api.State) { s.Word.Mode = -1 }},
		{"a word that may not be", func(s *api.State) { s.Word.Tail = most }},
		{"nothing at all", func(s *api.State) { *s = api.State{} }},
	} {
		for _, id := range []int{-1, 0, 2, 4} {
			stays(c.name, with(lived(), c.by), id)
		}
	}
}

// P15.2: so many steps, as long as it receives.
func TestHowMany(t *testing.T) {
	there := func(kind, pc int) api.State {
		return with(fresh(kind, pc), func(s *api.State) { s.Word.Tail = 1 })
	}
	busy := with(fresh(api.KRecv, 0), func(s *api.State) { s.Config.Wait = api.Busy })
	second := with(fresh(api.KRecvUntil, 0), func(s *api.State) { s.Recvs = []int{2} })
	for _, c := range []struct {
		name       string
		s          api.State
		many, want int
	}{
		{"the least", there(api.KRecv, 0), least, 0},
		{"below 0", there(api.KRecv, 0), -1, 0},
		{"none", there(api.KRecv, 0), 0, 0},
		{"one", there(api.KRecv, 0), 1, 1},
		{"up to its having taken it", there(api.KRecv, 0), 4, 4},
		{"all but the last", there(api.KRecv, 0), 6, 6},
		{"all", there(api.KRecv, 0), 7, 7},
		{"more than all", there(api.KRecv, 0), 8, 7},
		{"the greatest", there(api.KRecv, 0), most, 7},
		{"from the midst on", there(api.KRecv, 3), most, 4},
		{"the last", there(api.KRecv, 9), most, 1},
		{"the last, from behind", there(api.KRecv, 11), most, 1},
		{"up to where it parks", with(busy, func(s *api.State) { s.Config.Wait = api.Parking }), most, 6},
		{"fewer than 1000", busy, 999, 999},
		{"1000", busy, 1000, 1000},
		{"more than 1000", busy, 1001, 1000},
		{"far more than 1000", busy, most, 1000},
		{"behind another one", second, most, 1000},
	} {
		x, n := recv.Steps(c.s, 0, c.many)
		want := c.s
		for range c.want {
			want = step(want, 0)
		}
		if n != c.want || !same(x, want) {
			t.Errorf("%s: %+v, %d, not %+v, %d", c.name, x, n, want, c.want)
		}
	}
}

// P15.2: of states of all sorts, the same as one step after the other.
func TestHowManyAsTheWordsSay(t *testing.T) {
	turn := 0
	sorts(func(s api.State, id int, names ...string) {
		// A part of them will do, since each is gone through more than once.
		if turn++; turn%7 != 0 {
			return
		}
		many := []int{-1, 0, 1, 2, 3, 8, 12}[turn/7%7]
		want, often := s, 0
		for often < many && receives(want, id) {
			want, often = step(want, id), often+1
		}
		if x, n := recv.Steps(s, id, many); n != often || !same(x, want) {
			t.Fatalf("%v: Steps(%+v, %d, %d) = %+v, %d, not %+v, %d", names, s, id, many, x, n, want, often)
		}
	})
}

// P15.3: who stands in line, and how far it is to a notice.
func TestInsideNear(t *testing.T) {
	for pc := range 12 {
		if recv.Inside(pc) != (pc > 0) {
			t.Errorf("Inside(%d)", pc)
		}
		if want := map[int]int{3: 3, 4: 2, 6: 1}[pc]; recv.Near(pc) != want {
			t.Errorf("Near(%d) = %d", pc, recv.Near(pc))
		}
	}
	for _, pc := range []int{least, -last, -12, -11, -3, -1, 12, 13, 16, 1 << 32, 1<<32 + 3, 1<<32 + 6, last, most} {
		if recv.Inside(pc) || recv.Near(pc) != 0 {
			t.Errorf("%d: %v, %d", pc, recv.Inside(pc), recv.Near(pc))
		}
	}
}

// P15.3: who stands in Recvs, from when it entered till it is done, is inside; who takes something is as near to its notice as is said.
func TestInsideNearOfSteps(t *testing.T) {
	for _, c := range []struct {
		name string
		s    api.State
		near int
	}{
		{"something is there", with(fresh(api.KRecv, 0), func(s *api.State) { s.Word.Tail = 1 }), 3},
		{"nothing is there", fresh(api.KRecv, 0), 0},
		{"it tries", fresh(api.KTryRecv, 0), 0},
	} {
		s, nears := c.s, 0
		for receives(s, 0) {
			pc := s.Threads[0].Pc
			if recv.Inside(pc) != slices.Contains(s.Recvs, 0) {
				t.Fatalf("%s: %+v", c.name, s)
			}
			if near := recv.Near(pc); near > 0 {
				nears++
				if x, _ := recv.Steps(s, 0, near-1); x.Full.Epoch != s.Full.Epoch {
					t.Fatalf("%s: %+v: noticed before %d steps", c.name, s, near)
				}
				if x, _ := recv.Steps(s, 0, near); x.Full.Epoch != s.Full.Epoch+1 {
					t.Fatalf("%s: %+v: not noticed after %d steps", c.name, s, near)
				}
			}
			s = recv.Step(s, 0)
		}
		if nears != c.near {
			t.Errorf("%s: near at %d steps", c.name, nears)
		}
	}
}

// P15.4: alone, it has what there is with its fourth step, and is done after three more: in all that may be laid, wherever the ring begins.
func TestAlone(t *testing.T) {
	for n := range 6 * 3 * 4 * 3 * 2 {
		log, policy, how, kind, mode := 1+n%6, n/6%3, n/18%4, 4+n/72%3, n/216
		c := api.Config{Log: log, Threads: 1 + n%16, Policy: policy, Wait: how}
		id, room := n%c.Threads, 1<<log
		for _, head := range []int{0, 1, room, 5*room - 1, last - 2*room} {
			for _, there := range []int{1, 2, room} {
				s, _ := fabric.New(c)
				s, err := fabric.Invoke(s, id, kind, 0, n%2*9)
				if err != api.OK {
					t.Fatal(err)
				}
				s.Slots, s.Word = ring(room, head), api.Word{Head: head, Tail: head + there, Mode: mode}
				was := fabric.Queue(s)
				for often := range 8 {
					has := often > 3
					if (len(fabric.Queue(s).Vals) < len(was.Vals)) != has || (len(s.Log) == 1) != has || (s.Threads[id].Got == 500+head) != has {
						t.Fatalf("%+v, after %d steps: %+v", c, often, s)
					}
					if (s.Threads[id].Status == api.TIdle) != (often > 6) {
						t.Fatalf("%+v, after %d steps: %+v", c, often, s)
					}
					s = recv.Step(s, id)
				}
				if !slices.Equal(fabric.Queue(s).Vals, was.Vals[1:]) || s.Full.Epoch != 1 || s.Slots[head%room].Stamp != head+room || len(s.Recvs) != 0 {
					t.Fatalf("%+v, in the end: %+v", c, s)
				}
				if s.Log[0] != (api.Entry{Thread: id, Kind: kind, Result: api.ROK, Got: 500 + head}) || s.Threads[id].Result != api.ROK {
					t.Fatalf("%+v, told: %+v", c, s)
				}
			}
		}
	}
}

// P15.1, P15.4: who finds nothing, alone: how it ends, and after how many steps, of each policy.
func TestNothing(t *testing.T) {
	for n, c := range []struct {
		name          string
		kind, wait    int
		spin, yield   int
		late          bool
		mode          int
		steps, result int
	}{
		{"tries", api.KTryRecv, api.Busy, 0, 0, false, api.Open, 4, api.REmpty},
		{"tries, and would park", api.KTryRecv, api.Parking, 0, 0, false, api.Open, 4, api.REmpty},
		{"it is late", api.KRecvUntil, api.Busy, 0, 0, true, api.Open, 4, api.RTimeout},
		{"it is late, and would park", api.KRecvUntil, api.Parking, 0, 0, true, api.Open, 4, api.RTimeout},
		{"it is drained", api.KRecv, api.Parking, 0, 0, false, api.Draining, 4, api.RClosed},
		{"it is drained, and tries", api.KTryRecv, api.Busy, 0, 0, false, api.Draining, 4, api.RClosed},
		{"it is drained, and late", api.KRecvUntil, api.Busy, 0, 0, true, api.Draining, 4, api.RClosed},
		{"it is halted", api.KRecv, api.Parking, 0, 0, false, api.Halted, 4, api.RHalted},
		{"it is halted, and late", api.KRecvUntil, api.Phased, 8, 8, true, api.Halted, 4, api.RHalted},
		{"it parks", api.KRecv, api.Parking, 0, 0, false, api.Open, 6, api.RNone},
		{"it parks until", api.KRecvUntil, api.Parking, 0, 0, false, api.Open, 6, api.RNone},
		{"it spins, yields, and parks", api.KRecv, api.Phased, 3, 2, false, api.Open, 11, api.RNone},
		{"it parks, of no spins", api.KRecv, api.Phased, 0, 0, false, api.Open, 6, api.RNone},
		{"it spins, and parks, longest", api.KRecv, api.Phased, 8, 8, false, api.Open, 22, api.RNone},
		{"it spins on", api.KRecv, api.Busy, 0, 0, false, api.Open, 1000, api.RNone},
		{"it yields on", api.KRecvUntil, api.Yielding, 0, 0, false, api.Open, 1000, api.RNone},
	} {
		for policy := range 3 {
			s := with(fresh(c.kind, 0), func(s *api.State) {
				s.Config = api.Config{Log: 1, Threads: 3, Policy: policy, Wait: c.wait, Spin: c.spin, Yield: c.yield}
				s.Word = api.Word{Head: n, Tail: n, Mode: c.mode}
				s.Threads[0].Late = c.late
			})
			x, often := recv.Steps(s, 0, most)
			if often != c.steps || x.Threads[0].Result != c.result || x.Threads[0].Got != 0 || x.Word != s.Word || !slices.Equal(x.Slots, s.Slots) || !fabric.Check(x) {
				t.Errorf("%s: %+v, %d", c.name, x, often)
			}
			if waits := c.result == api.RNone; waits == (x.Threads[0].Status == api.TIdle) || waits == (len(x.Recvs) == 0) || waits == (len(x.Log) > 0) {
				t.Errorf("%s: %+v", c.name, x)
			}
		}
	}
}

// P15.1: who parked, and is woken, goes on to look, and has it, or parks again.
func TestWoken(t *testing.T) {
	s, n := recv.Steps(with(fresh(api.KRecvUntil, 0), func(s *api.State) { s.Threads[0].Until = 9 }), 0, most)
	if x := s.Threads[0]; n != 6 || x.Status != api.TParked || x.Pc != 2 || !slices.Equal(s.Empty.Line, []int{0}) || !slices.Equal(s.Recvs, []int{0}) {
		t.Fatalf("%+v, %d", s, n)
	}
	s.Empty = api.Event{Epoch: 1}
	s = fabric.Wake(s, 0)
	again, n := recv.Steps(s, 0, most)
	if x := again.Threads[0]; n != 4 || x.Status != api.TParked || x.Seen != 1 || !slices.Equal(again.Empty.Line, []int{0}) {
		t.Errorf("nothing: %+v, %d", again, n)
	}
	some := with(s, func(s *api.State) { s.Word.Tail = 2 })
	if out, n := recv.Steps(some, 0, most); n != 5 || out.Threads[0].Result != api.ROK || out.Threads[0].Got != 50 || !slices.Equal(fabric.Queue(out).Vals, []int{60}) {
		t.Errorf("something: %+v, %d", out, n)
	}
	late := with(s, func(s *api.State) { s.Threads[0].Late = true })
	if out, n := recv.Steps(late, 0, most); n != 2 || out.Threads[0].Result != api.RTimeout || len(out.Recvs) != 0 {
		t.Errorf("late: %+v, %d", out, n)
	}
}

// P15.1: who stands first receives, who stands behind goes on when it has left.
func TestOneBehindTheOther(t *testing.T) {
	s, _ := fabric.New(api.Config{Log: 2, Threads: 3})
	s.Slots, s.Word = ring(4, 0), api.Word{Tail: 4}
	for id := range 3 {
		s, _ = fabric.Invoke(s, id, api.KRecv, 0, 0)
	}
	for _, id := range []int{2, 0, 1} {
		s = recv.Step(s, id)
	}
	if !slices.Equal(s.Recvs, []int{2, 0, 1}) {
		t.Fatalf("%+v", s.Recvs)
	}
	for n, id := range []int{2, 0, 1} {
		for _, behind := range []int{2, 0, 1}[n+1:] {
			x, often := recv.Steps(s, behind, 50)
			if often != 50 || x.Threads[behind].Pc != 1 || x.Threads[behind].Tries != s.Threads[behind].Tries+50 || x.Word != s.Word {
				t.Fatalf("%d: %+v", behind, x)
			}
		}
		s, _ = recv.Steps(s, id, most)
		if s.Threads[id].Got != 500+n {
			t.Fatalf("%d: %+v", id, s)
		}
	}
	if !slices.Equal(fabric.Queue(s).Vals, []int{503}) || len(s.Recvs) != 0 || s.Full.Epoch != 3 {
		t.Errorf("%+v", s)
	}
}

// P15.1: one waits for something, one for room; who sends, or receives, wakes the other one.
func TestWakeOneAnother(t *testing.T) {
	s, _ := fabric.New(api.Config{Log: 1, Threads: 3, Wait: api.Parking})
	s, _ = fabric.Invoke(s, 0, api.KRecv, 0, 0)
	s, _ = recv.Steps(s, 0, most)
	s, _ = fabric.Invoke(s, 1, api.KSend, 31, 0)
	if s, _ = send.Steps(s, 1, 5); s.Threads[0].Status != api.TParked {
		t.Fatalf("woken ahead of the notice: %+v", s)
	}
	if s, _ = send.Steps(s, 1, most); s.Threads[0].Status != api.TRuns {
		t.Fatalf("not woken: %+v", s)
	}
	for _, val := range []int{32, 33} {
		s, _ = fabric.Invoke(s, 1, api.KSend, val, 0)
		s, _ = send.Steps(s, 1, most)
	}
	if s.Threads[1].Status != api.TParked || !slices.Equal(s.Full.Line, []int{1}) {
		t.Fatalf("there is room: %+v", s)
	}
	if s, _ = recv.Steps(s, 0, 3); s.Threads[1].Status != api.TParked {
		t.Fatalf("woken ahead of the notice: %+v", s)
	}
	if s, _ = recv.Steps(s, 0, 1); s.Threads[1].Status != api.TRuns || len(s.Full.Line) != 0 {
		t.Fatalf("not woken: %+v", s)
	}
	s, _ = recv.Steps(s, 0, most)
	s, _ = send.Steps(s, 1, most)
	if s.Threads[0].Got != 31 || s.Threads[1].Result != api.ROK || !slices.Equal(fabric.Queue(s).Vals, []int{32, 33}) {
		t.Errorf("%+v", s)
	}
}

// told is what a log tells that is there, and whether what went out was the first one each time.
func told(l []api.Entry) ([]int, bool) {
	var vals []int
	for _, e := range l {
		switch {
		case e.Result != api.ROK:
		case e.Kind <= api.KSendUntil:
			vals = append(vals, e.Val)
		case len(vals) == 0 || vals[0] != e.Got:
			return nil, false
		default:
			vals = vals[1:]
		}
	}
	return vals, true
}

// pick is a step of who sends, or receives.
func pick(s api.State, id int) api.State {
	return recv.Step(send.Step(s, id), id)
}

// P15.4: of all scripts of two who receive, and, of each policy, of one who sends and one who receives: what was told is what is there, in order, what may be stays so, and one thing changes at most.
func TestScripts(t *testing.T) {
	type begun struct{ kind, val int }
	for _, c := range []struct {
		name  string
		there int
		does  [2]begun
		ends  [][2]int
	}{
		{"two receive one", 1, [2]begun{{api.KRecv, 0}, {api.KTryRecv, 0}}, [][2]int{{api.ROK, api.REmpty}, {api.ROK, api.RNone}, {api.RNone, api.ROK}}},
		{"two receive two", 2, [2]begun{{api.KRecv, 0}, {api.KTryRecv, 0}}, [][2]int{{api.ROK, api.ROK}}},
		{"one sends, of an empty ring", 0, [2]begun{{api.KRecv, 0}, {api.KSend, 30}}, [][2]int{{api.ROK, api.ROK}, {api.RNone, api.ROK}}},
		{"one sends, and one tries", 0, [2]begun{{api.KTryRecv, 0}, {api.KSend, 30}}, [][2]int{{api.REmpty, api.ROK}, {api.ROK, api.ROK}}},
		{"one sends, of a full ring", 2, [2]begun{{api.KRecv, 0}, {api.KSend, 30}}, [][2]int{{api.ROK, api.ROK}, {api.ROK, api.RNone}}},
	} {
		for policy := range 3 {
			s, _ := fabric.New(api.Config{Log: 1, Threads: 2, Policy: policy, Wait: api.Parking})
			for n := range c.there {
				s, _ = fabric.Invoke(s, 0, api.KSend, 10+n, 0)
				s, _ = send.Steps(s, 0, most)
			}
			for id, x := range c.does {
				s, _ = fabric.Invoke(s, id, x.kind, x.val, 0)
			}
			ends := map[[2]int]bool{}
			var play func(s api.State, left int)
			play = func(s api.State, left int) {
				if vals, in := told(s.Log); !in || !fabric.Check(s) || !slices.Equal(fabric.Queue(s).Vals, vals) {
					t.Fatalf("%s, policy %d: %+v", c.name, policy, s)
				}
				if left == 0 || s.Threads[0].Status != api.TRuns && s.Threads[1].Status != api.TRuns {
					ends[[2]int{s.Threads[0].Result, s.Threads[1].Result}] = true
					return
				}
				for id := range 2 {
					if x := pick(s, id); shared(s, x) > 1 {
						t.Fatalf("%s, policy %d: %+v, of %+v", c.name, policy, x, s)
					} else if !same(x, s) {
						play(x, left-1)
					}
				}
			}
			play(s, 14)
			for _, end := range c.ends {
				if policy == api.Block && !ends[end] {
					t.Errorf("%s, policy %d: %v is none of %v", c.name, policy, end, ends)
				}
			}
		}
	}
}

// R1: lists far longer than may be, and a log that is long.
func TestLong(t *testing.T) {
	long := make([]int, 1_000_000)
	for name, by := range map[string]func(s *api.State){
		"slots":   func(s *api.State) { s.Slots = make([]api.Slot, 1_000_000) },
		"threads": func(s *api.State) { s.Threads = make([]api.Thread, 1_000_000) },
		"sends":   func(s *api.State) { s.Sends = long },
		"recvs":   func(s *api.State) { s.Recvs = long },
		"full":    func(s *api.State) { s.Full.Line = long },
		"empty":   func(s *api.State) { s.Empty.Line = long },
	} {
		s := with(lived(), by)
		if x, n := recv.Steps(s, 2, most); n != 0 || !same(x, s) {
			t.Errorf("%s: %d", name, n)
		}
	}
	s := with(lived(), func(s *api.State) { s.Log = make([]api.Entry, 1_000_000) })
	if x, n := recv.Steps(s, 2, most); n != 4 || len(x.Log) != 1_000_001 {
		t.Errorf("a long log: %d, %d", n, len(x.Log))
	}
}

// spare is a list with room behind it, in which something stands.
func spare[T any](l []T, behind T) []T {
	m := slices.Grow(slices.Clone(l), 4)
	for n := range m[:cap(m)][len(m):] {
		m[:cap(m)][len(m)+n] = behind
	}
	return m
}

// roomy is a state in which all lists have room behind them.
func roomy(s api.State) api.State {
	s.Slots = spare(s.Slots, api.Slot{Stamp: -77})
	s.Threads, s.Log = spare(s.Threads, api.Thread{Val: -77}), spare(s.Log, api.Entry{Val: -77})
	s.Sends, s.Recvs = spare(s.Sends, -77), spare(s.Recvs, -77)
	s.Full.Line, s.Empty.Line = spare(s.Full.Line, -77), spare(s.Empty.Line, -77)
	return s
}

// whole is a state with all that stands in the room behind its lists.
func whole(s api.State) api.State {
	s.Slots, s.Threads, s.Log = s.Slots[:cap(s.Slots)], s.Threads[:cap(s.Threads)], s.Log[:cap(s.Log)]
	s.Sends, s.Recvs = s.Sends[:cap(s.Sends)], s.Recvs[:cap(s.Recvs)]
	s.Full.Line, s.Empty.Line = s.Full.Line[:cap(s.Full.Line)], s.Empty.Line[:cap(s.Empty.Line)]
	return s
}

// fill writes one thing all over a list.
func fill[T any](l []T, x T) {
	for n := range l {
		l[n] = x
	}
}

// spoil writes all over what a state has, and over the room behind it.
func spoil(s api.State) {
	s = whole(s)
	fill(s.Slots, api.Slot{Stamp: -99, Val: -99})
	fill(s.Threads, api.Thread{Val: -99})
	fill(s.Log, api.Entry{Val: -99})
	for _, l := range [][]int{s.Sends, s.Recvs, s.Full.Line, s.Empty.Line} {
		fill(l, -99)
	}
}

// at has states in which the receiver is at each step, with its thread; and some in which it does not receive.
func at() []api.State {
	var l []api.State
	for pc := range 12 {
		s := with(lived(), func(s *api.State) { s.Threads[2].Pc = pc })
		l = append(l, s,
			with(s, func(s *api.State) { s.Word.Tail = 6 }),
			with(s, func(s *api.State) { s.Word.Tail, s.Threads[2].Tries = 6, 3 }),
			with(s, func(s *api.State) { s.Word.Mode = api.Halted }))
	}
	return append(l, with(lived(), func(s *api.State) { s.Threads[2].Status = api.TParked }), with(lived(), func(s *api.State) { s.Now = -1 }), api.State{})
}

// answers has all states that are answered of one.
func answers(s api.State) []api.State {
	l := []api.State{}
	for _, id := range []int{-1, 0, 1, 2, 3, 4} {
		l = append(l, recv.Step(s, id))
		for _, many := range []int{-1, 0, 1, 2, 9} {
			x, _ := recv.Steps(s, id, many)
			l = append(l, x)
		}
	}
	return l
}

// R3: what is handed in is neither changed nor kept, its spare room included.
func TestHandedIn(t *testing.T) {
	for n, from := range at() {
		s := roomy(from)
		was := apart(whole(s))
		is := []api.State{}
		for _, x := range answers(s) {
			is = append(is, apart(x))
			spoil(x)
			if !same(whole(s), was) {
				t.Fatalf("%d: what was handed in is %+v, not %+v", n, whole(s), was)
			}
		}
		l := answers(s)
		spoil(s)
		for m, x := range l {
			if !same(x, is[m]) {
				t.Fatalf("%d, %d: what was handed in is kept: %+v, not %+v", n, m, x, is[m])
			}
		}
	}
}

// R3: no two lists of one answer share memory, though those handed in do.
func TestShareNothing(t *testing.T) {
	one := []int{2, 3, 1, 0}
	for n, from := range at() {
		for _, by := range []func(s *api.State){
			func(s *api.State) { s.Sends, s.Recvs, s.Full.Line, s.Empty.Line = one, one, one, one },
			func(s *api.State) { s.Sends, s.Recvs, s.Full.Line, s.Empty.Line = one[1:2], one[:1], one[1:], one[3:] },
			func(s *api.State) { s.Sends, s.Recvs, s.Full.Line, s.Empty.Line = one[:0], one[:0], one, one[:0] },
		} {
			for m, x := range answers(with(from, by)) {
				lists := [][]int{x.Sends, x.Recvs, x.Full.Line, x.Empty.Line}
				for a, l := range lists {
					was := apart(x)
					fill(l[:cap(l)], -99)
					for b, other := range [][]int{was.Sends, was.Recvs, was.Full.Line, was.Empty.Line} {
						if a != b && !slices.Equal(other, lists[b]) {
							t.Fatalf("%d, %d: lists %d and %d share memory", n, m, a, b)
						}
						copy(lists[b], other)
					}
				}
			}
			if !slices.Equal(one, []int{2, 3, 1, 0}) {
				t.Fatalf("%d: %v", n, one)
			}
		}
	}
}

// R4: the same is answered of the same, in whatever order it is asked, whatever room is behind, and however goroutines run.
func TestSameAnswers(t *testing.T) {
	l := at()
	asked := [][]api.State{}
	for _, s := range l {
		asked = append(asked, answers(s))
	}
	var group sync.WaitGroup
	for n := range 8 {
		group.Go(func() {
			for m := range l {
				m = (m*5 + n) % len(l)
				s := l[m]
				if n%2 == 1 {
					s = roomy(s)
				}
				if !slices.EqualFunc(answers(s), asked[m], same) {
					t.Errorf("of %+v another answer", l[m])
				}
			}
		})
	}
	group.Wait()
}
