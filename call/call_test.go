package call_test

import (
	"slices"
	"sync"
	"testing"

	"sakia/api"
	"sakia/call"
	"sakia/fabric"
	"sakia/step"
	"sakia/tick"
)

const (
	most  = 1<<63 - 1
	least = -1 << 63
	last  = 1 << 40
)

// kinds, threads and amounts are those that may be, those beside them, and some far outside; some are a kind, or a thread, in their lower bits alone.
var (
	kinds   = []int{least, -2, -1, 0, 1, 2, 3, 4, 5, 6, 7, 8, 9, 10, 11, 12, 13, 1<<32 + 1, 1<<32 + 10, most}
	threads = []int{least, -2, -1, 0, 1, 2, 14, 15, 16, 17, 1 << 32, 1<<32 + 1, most}
	amounts = []int{least, -last, -1, 0, 1, 2, 1 << 32, last - 1, last, last + 1, 1 << 41, most}
)

// has is what the chapter says that calls have: a thread, a value, a time.
var has = map[int][3]bool{
	1: {true, true, false}, 2: {true, true, false}, 3: {true, true, true},
	4: {true, false, false}, 5: {true, false, false}, 6: {true, false, true},
	7: {true, false, false}, 8: {true, false, false},
	10: {true, false, false}, 11: {false, true, false},
}

// checked is what the chapter says of a call.
func checked(x api.Call) api.Errno {
	own, is := has[x.Kind]
	if !is {
		return 190
	}
	for n, v := range [3]int{x.Thread, x.Val, x.Until} {
		if !own[n] && v != 0 {
			return 190
		}
	}
	if x.Thread < 0 || x.Thread > 15 {
		return 190
	}
	if x.Until < 0 || x.Until > last {
		return 50
	}
	if x.Kind == 11 && (x.Val < 0 || x.Val > last) {
		return 50
	}
	return 0
}

// calls goes through calls of all sorts, most of which may not be.
func calls(yield func(x api.Call) bool) {
	for _, kind := range kinds {
		for _, thread := range threads {
			for _, val := range amounts {
				for _, until := range amounts {
					if !yield(api.Call{Kind: kind, Thread: thread, Val: val, Until: until}) {
						return
					}
				}
			}
		}
	}
}

// P19.1: calls that may be, and those that may not.
func TestCheck(t *testing.T) {
	for _, c := range []struct {
		name string
		x    api.Call
		want api.Errno
	}{
		{"sends", api.Call{Kind: api.KSend, Thread: 3, Val: 7}, api.OK},
		{"sends nothing", api.Call{Kind: api.KSend}, api.OK},
		{"sends the least", api.Call{Kind: api.KSend, Val: least}, api.OK},
		{"sends the most", api.Call{Kind: api.KTrySend, Thread: 15, Val: most}, api.OK},
		{"sends until", api.Call{Kind: api.KSendUntil, Thread: 3, Val: -7, Until: 5}, api.OK},
		{"sends until now", api.Call{Kind: api.KSendUntil, Val: 7}, api.OK},
		{"sends until the last time", api.Call{Kind: api.KSendUntil, Val: 7, Until: last}, api.OK},
		{"receives", api.Call{Kind: api.KRecv, Thread: 3}, api.OK},
		{"tries to receive", api.Call{Kind: api.KTryRecv, Thread: 15}, api.OK},
		{"receives until", api.Call{Kind: api.KRecvUntil, Thread: 3, Until: 5}, api.OK},
		{"drains", api.Call{Kind: api.KDrain, Thread: 3}, api.OK},
		{"halts", api.Call{Kind: api.KHalt, Thread: 15}, api.OK},
		{"picks", api.Call{Kind: api.KPick, Thread: 15}, api.OK},
		{"ticks", api.Call{Kind: api.KTick, Val: 5}, api.OK},
		{"ticks by nothing", api.Call{Kind: api.KTick}, api.OK},
		{"ticks by all", api.Call{Kind: api.KTick, Val: last}, api.OK},

		{"empty", api.Call{}, api.ErrCall},
		{"evicts", api.Call{Kind: api.KEvict}, api.ErrCall},
		{"behind all", api.Call{Kind: 12}, api.ErrCall},
		{"ahead of all", api.Call{Kind: -1}, api.ErrCall},
		{"of no kind, and of no time", api.Call{Kind: api.KEvict, Until: -1}, api.ErrCall},
		{"sends until, but does not wait", api.Call{Kind: api.KSend, Val: 7, Until: 5}, api.ErrCall},
		{"tries to send, until", api.Call{Kind: api.KTrySend, Until: 1}, api.ErrCall},
		{"sends until, of no time", api.Call{Kind: api.KSend, Val: 7, Until: -1}, api.ErrCall},
		{"receives a value", api.Call{Kind: api.KRecv, Val: 1}, api.ErrCall},
		{"receives, until", api.Call{Kind: api.KRecv, Until: 1}, api.ErrCall},
		{"tries to receive a value", api.Call{Kind: api.KTryRecv, Val: -1}, api.ErrCall},
		{"tries to receive, until", api.Call{Kind: api.KTryRecv, Until: 1}, api.ErrCall},
		{"receives a value, until", api.Call{Kind: api.KRecvUntil, Val: 1, Until: 5}, api.ErrCall},
		{"drains a value", api.Call{Kind: api.KDrain, Val: 1}, api.ErrCall},
		{"drains, until", api.Call{Kind: api.KDrain, Until: 1}, api.ErrCall},
		{"halts a value", api.Call{Kind: api.KHalt, Val: 1}, api.ErrCall},
		{"halts, until", api.Call{Kind: api.KHalt, Until: 1}, api.ErrCall},
		{"picks a value", api.Call{Kind: api.KPick, Val: 1}, api.ErrCall},
		{"picks, until", api.Call{Kind: api.KPick, Until: 1}, api.ErrCall},
		{"a thread ticks", api.Call{Kind: api.KTick, Thread: 1, Val: 5}, api.ErrCall},
		{"ticks, until", api.Call{Kind: api.KTick, Val: 5, Until: 1}, api.ErrCall},
		{"a thread ahead of all sends", api.Call{Kind: api.KSend, Thread: -1}, api.ErrCall},
		{"a thread behind all sends", api.Call{Kind: api.KSend, Thread: 16}, api.ErrCall},
		{"a thread behind all is picked", api.Call{Kind: api.KPick, Thread: 16}, api.ErrCall},
		{"a thread ahead of all is picked", api.Call{Kind: api.KPick, Thread: -1}, api.ErrCall},

		{"sends until, ahead of all", api.Call{Kind: api.KSendUntil, Until: -1}, api.ErrTime},
		{"sends until, behind all", api.Call{Kind: api.KSendUntil, Until: last + 1}, api.ErrTime},
		{"receives until, ahead of all", api.Call{Kind: api.KRecvUntil, Until: least}, api.ErrTime},
		{"receives until, behind all", api.Call{Kind: api.KRecvUntil, Until: most}, api.ErrTime},
		{"ticks back", api.Call{Kind: api.KTick, Val: -1}, api.ErrTime},
		{"ticks too far", api.Call{Kind: api.KTick, Val: last + 1}, api.ErrTime},

		{"a thread behind all, of no time", api.Call{Kind: api.KSendUntil, Thread: 16, Until: last + 1}, api.ErrCall},
		{"receives a value, of no time", api.Call{Kind: api.KRecvUntil, Val: 1, Until: -1}, api.ErrCall},
		{"a thread ticks back", api.Call{Kind: api.KTick, Thread: 1, Val: -1}, api.ErrCall},
		{"ticks back, until", api.Call{Kind: api.KTick, Val: -1, Until: 1}, api.ErrCall},
	} {
		if err := call.Check(c.x); err != c.want {
			t.Errorf("%s: %d, not %d", c.name, err, c.want)
		}
	}
}

// P19.1, P19.2, P19.4: each call, as the words of the chapter say it; what was encoded is decoded.
func TestCallsAsTheWordsSay(t *testing.T) {
	told := map[api.Errno]int{}
	for x := range calls {
		want := checked(x)
		told[want]++
		if err := call.Check(x); err != want {
			t.Fatalf("Check(%+v) = %d, not %d", x, err, want)
		}
		l := call.Encode(x)
		if !slices.Equal(l, []int{x.Kind, x.Thread, x.Val, x.Until}) {
			t.Fatalf("Encode(%+v) = %v", x, l)
		}
		is := x
		if want != api.OK {
			is = api.Call{}
		}
		if y, err := call.Decode(l); err != want || y != is {
			t.Fatalf("Decode(%v) = %+v, %d, not %+v, %d", l, y, err, is, want)
		}
	}
	if len(told) != 3 || told[api.OK] < 300 || told[api.ErrTime] < 300 || told[api.ErrCall] < 10_000 {
		t.Errorf("told %v", told)
	}
}

// P19.2: numbers of all counts; the chapter's example is the first one.
func TestDecode(t *testing.T) {
	for _, c := range []struct {
		l    []int
		x    api.Call
		want api.Errno
	}{
		{[]int{10, 3, 0, 0}, api.Call{Kind: api.KPick, Thread: 3}, api.OK},
		{[]int{1, 2, 3, 0}, api.Call{Kind: api.KSend, Thread: 2, Val: 3}, api.OK},
		{[]int{3, 1, 2, 4}, api.Call{Kind: api.KSendUntil, Thread: 1, Val: 2, Until: 4}, api.OK},
		{[]int{6, 1, 0, 4}, api.Call{Kind: api.KRecvUntil, Thread: 1, Until: 4}, api.OK},
		{[]int{11, 0, 9, 0}, api.Call{Kind: api.KTick, Val: 9}, api.OK},
		{nil, api.Call{}, api.ErrCall},
		{[]int{}, api.Call{}, api.ErrCall},
		{[]int{10}, api.Call{}, api.ErrCall},
		{[]int{10, 3}, api.Call{}, api.ErrCall},
		{[]int{10, 3, 0}, api.Call{}, api.ErrCall},
		{[]int{10, 3, 0, 0, 0}, api.Call{}, api.ErrCall},
		{[]int{11, 0, -1}, api.Call{}, api.ErrCall},
		{[]int{11, 0, -1, 0, 0}, api.Call{}, api.ErrCall},
		{[]int{11, 0, -1, 0}, api.Call{}, api.ErrTime},
		{[]int{9, 3, 0, 0}, api.Call{}, api.ErrCall},
		{[]int{6, 1, 4, 0}, api.Call{}, api.ErrCall},
	} {
		if x, err := call.Decode(c.l); err != c.want || x != c.x {
			t.Errorf("Decode(%v) = %+v, %d, not %+v, %d", c.l, x, err, c.x, c.want)
		}
	}
	// R1: far more numbers than a call is.
	if x, err := call.Decode(make([]int, 10_000_000)); err != api.ErrCall || x != (api.Call{}) {
		t.Errorf("of many numbers %+v, %d", x, err)
	}
	// What stands in the room behind is none of the numbers.
	four := []int{10, 3, 0, 0, 9}
	if x, err := call.Decode(four[:4]); err != api.OK || x != (api.Call{Kind: api.KPick, Thread: 3}) {
		t.Errorf("with room behind %+v, %d", x, err)
	}
	if x, err := call.Decode(four[:3]); err != api.ErrCall || x != (api.Call{}) {
		t.Errorf("of three, with room behind %+v, %d", x, err)
	}
}

// lived is a fabric of room 4, three of it taken, in which all lists have something; 0, 2 and 3 are parked, 5 and 6 are idle.
func lived() api.State {
	return api.State{
		Config: api.Config{Log: 2, Threads: 7, Wait: api.Phased, Spin: 2, Yield: 1},
		Word:   api.Word{Head: 6, Tail: 9},
		Slots:  []api.Slot{{Stamp: 8, Val: 80}, {Stamp: 9, Val: 90}, {Stamp: 6, Val: 60}, {Stamp: 7, Val: 70}},
		Sends:  []int{3, 1}, Recvs: []int{4, 0},
		Full: api.Event{Epoch: 5, Line: []int{3, 2}}, Empty: api.Event{Epoch: 3, Line: []int{2, 0}},
		Now: 12,
		Threads: []api.Thread{
			{Status: api.TParked, Kind: api.KRecvUntil, Val: 100, Until: 20, Pc: 2, Reg: 5, Seen: 3, Result: api.ROK, Got: 7},
			{Status: api.TRuns, Kind: api.KSendUntil, Val: 101, Until: 15, Pc: 1, Tries: 4},
			{Status: api.TParked, Kind: api.KRecv, Val: 102, Pc: 2, Seen: 3},
			{Status: api.TParked, Kind: api.KSendUntil, Val: 103, Until: 15, Pc: 2, Seen: 5},
			{Status: api.TRuns, Kind: api.KRecvUntil, Val: 104, Until: 13, Pc: 2},
			{Kind: api.KSendUntil, Val: 105, Until: 14, Result: api.ROK},
			{},
		},
		Log: []api.Entry{{Thread: 3, Kind: api.KTrySend, Val: 103, Result: api.ROK, Got: 50}},
	}
}

// ended is a fabric at its upper bounds, but for the time, of which five are left.
func ended() api.State {
	return api.State{
		Config: api.Config{Log: 1, Threads: 3, Policy: api.DropOld, Wait: api.Yielding, Single: true},
		Word:   api.Word{Head: last - 2, Tail: last, Mode: api.Draining},
		Slots:  []api.Slot{{Stamp: last - 2, Val: most}, {Stamp: last - 1, Val: least}},
		Full:   api.Event{Epoch: last, Line: []int{1}},
		Empty:  api.Event{Epoch: last, Line: []int{0, 1}},
		Now:    last - 5,
		Threads: []api.Thread{
			{Kind: api.KRecvUntil, Until: last, Result: api.RTimeout, Got: most},
			{Status: api.TParked, Kind: api.KSendUntil, Val: most, Until: last - 2, Pc: 11, Reg: last, Seen: last, Tries: last, Result: api.RHalted, Got: most},
			{Status: api.TRuns, Kind: api.KHalt, Val: least, Pc: 2, Reg: last - 2},
		},
		Log: []api.Entry{{Thread: -1, Kind: least, Val: most, Result: 99, Got: most}},
	}
}

// laid is a new fabric of that configuration.
func laid(c api.Config) api.State {
	s, _ := fabric.New(c)
	return s
}

// apart is a state that shares no memory with another one.
func apart(s api.State) api.State {
	s.Slots, s.Threads, s.Log = slices.Clone(s.Slots), slices.Clone(s.Threads), slices.Clone(s.Log)
	s.Sends, s.Recvs = slices.Clone(s.Sends), slices.Clone(s.Recvs)
	s.Full.Line, s.Empty.Line = slices.Clone(s.Full.Line), slices.Clone(s.Empty.Line)
	return s
}

// with is a state that is changed.
func with(s api.State, by func(s *api.State)) api.State {
	s = apart(s)
	by(&s)
	return s
}

// same tells whether two states have the same in them.
func same(a, b api.State) bool {
	alike := func(a, b api.Event) bool { return a.Epoch == b.Epoch && slices.Equal(a.Line, b.Line) }
	return a.Config == b.Config && a.Word == b.Word && a.Now == b.Now &&
		slices.Equal(a.Slots, b.Slots) && slices.Equal(a.Threads, b.Threads) && slices.Equal(a.Log, b.Log) &&
		slices.Equal(a.Sends, b.Sends) && slices.Equal(a.Recvs, b.Recvs) && alike(a.Full, b.Full) && alike(a.Empty, b.Empty)
}

// states has fabrics of all sorts, those that may not be behind the others.
func states() []api.State {
	l := []api.State{
		laid(api.Config{Log: 1, Threads: 2}),
		laid(api.Config{Log: 6, Threads: 16, Wait: api.Parking, Single: true}),
		lived(), ended(),
	}
	for _, by := range []func(s *api.State){
		func(s *api.State) { s.Now = 0 },
		func(s *api.State) { s.Now = last },
		func(s *api.State) { s.Word.Mode = api.Halted },
		func(s *api.State) { s.Config.Single = true },
		func(s *api.State) { s.Full.Line, s.Empty.Line = nil, nil },
		func(s *api.State) { s.Word.Head = s.Word.Tail },
		func(s *api.State) { s.Now = -1 },
		func(s *api.State) { s.Now = last + 1 },
		func(s *api.State) { s.Now = most },
		func(s *api.State) { s.Now = least },
		func(s *api.State) { s.Word.Mode = 3 },
		func(s *api.State) { s.Threads = s.Threads[1:] },
		func(s *api.State) { s.Threads = nil },
		func(s *api.State) { s.Slots = nil },
		func(s *api.State) { s.Threads[1].Kind = api.KPick },
		func(s *api.State) { s.Recvs = []int{1, 1} },
		func(s *api.State) { s.Config.Threads = 17 },
	} {
		l = append(l, with(lived(), by))
	}
	return append(l, api.State{})
}

// done is what the chapter says of a call that happens to a fabric.
func done(s api.State, x api.Call) (api.State, api.Errno) {
	if err := checked(x); err != api.OK {
		return s, err
	}
	switch x.Kind {
	case api.KTick:
		then, _, err := tick.Tick(s, x.Val)
		return then, err
	case api.KPick:
		return step.Pick(s, x.Thread)
	}
	return fabric.Invoke(s, x.Thread, x.Kind, x.Val, s.Now+x.Until)
}

// P19.3: what each sort of call makes of a fabric.
func TestDo(t *testing.T) {
	begun := func(id, kind, val, until int) func(s *api.State) {
		return func(s *api.State) {
			s.Threads[id] = api.Thread{Status: api.TRuns, Kind: kind, Val: val, Until: until}
		}
	}
	for _, c := range []struct {
		name string
		x    api.Call
		then func(s *api.State)
	}{
		{"sends", api.Call{Kind: api.KSend, Thread: 5, Val: 7}, begun(5, api.KSend, 7, 0)},
		{"tries to send", api.Call{Kind: api.KTrySend, Thread: 6, Val: most}, begun(6, api.KTrySend, most, 0)},
		{"sends until", api.Call{Kind: api.KSendUntil, Thread: 5, Val: least, Until: 8}, begun(5, api.KSendUntil, least, 20)},
		{"sends until now", api.Call{Kind: api.KSendUntil, Thread: 5, Val: 7}, begun(5, api.KSendUntil, 7, 12)},
		{"sends until the last time", api.Call{Kind: api.KSendUntil, Thread: 5, Val: 7, Until: last - 12}, begun(5, api.KSendUntil, 7, last)},
		{"receives", api.Call{Kind: api.KRecv, Thread: 6}, begun(6, api.KRecv, 0, 0)},
		{"tries to receive", api.Call{Kind: api.KTryRecv, Thread: 5}, begun(5, api.KTryRecv, 0, 0)},
		{"receives until", api.Call{Kind: api.KRecvUntil, Thread: 6, Until: 1}, begun(6, api.KRecvUntil, 0, 13)},
		{"drains", api.Call{Kind: api.KDrain, Thread: 5}, begun(5, api.KDrain, 0, 0)},
		{"halts", api.Call{Kind: api.KHalt, Thread: 6}, begun(6, api.KHalt, 0, 0)},
		{"a sender is picked", api.Call{Kind: api.KPick, Thread: 1}, func(s *api.State) { s.Threads[1].Tries = 5 }},
		{"a receiver is picked", api.Call{Kind: api.KPick, Thread: 4}, func(s *api.State) { s.Threads[4].Pc = 3 }},
		{"ticks by nothing", api.Call{Kind: api.KTick}, func(s *api.State) {}},
		{"ticks", api.Call{Kind: api.KTick, Val: 1}, func(s *api.State) { s.Now, s.Threads[4].Late = 13, true }},
		{"ticks on", api.Call{Kind: api.KTick, Val: 3}, func(s *api.State) {
			s.Now, s.Threads[4].Late, s.Threads[1].Late, s.Threads[3].Late = 15, true, true, true
			s.Threads[3].Status, s.Full.Line = api.TRuns, []int{2}
		}},
	} {
		want := with(lived(), c.then)
		if x, err := call.Do(lived(), c.x); err != api.OK || !same(x, want) {
			t.Errorf("%s: %+v, %d, not %+v", c.name, x, err, want)
		}
	}
}

// P19.3: which error is told first; all is as it was then.
func TestDoErrors(t *testing.T) {
	now := func(n int) api.State { return with(lived(), func(s *api.State) { s.Now = n }) }
	for _, c := range []struct {
		name string
		s    api.State
		x    api.Call
		want api.Errno
	}{
		{"of no kind", lived(), api.Call{Kind: api.KEvict, Thread: 5}, api.ErrCall},
		{"empty", lived(), api.Call{}, api.ErrCall},
		{"a pick with a value", lived(), api.Call{Kind: api.KPick, Thread: 1, Val: 1}, api.ErrCall},
		{"a tick of a thread", lived(), api.Call{Kind: api.KTick, Thread: 1, Val: 1}, api.ErrCall},
		{"who sends waits until, though not timed", lived(), api.Call{Kind: api.KSend, Thread: 5, Until: 1}, api.ErrCall},
		{"who receives has a value", lived(), api.Call{Kind: api.KRecv, Thread: 5, Val: 1}, api.ErrCall},
		{"until ahead of all, though it would be behind now", lived(), api.Call{Kind: api.KSendUntil, Thread: 5, Until: -1}, api.ErrTime},
		{"until behind all", lived(), api.Call{Kind: api.KRecvUntil, Thread: 5, Until: last + 1}, api.ErrTime},
		{"until behind all, from now on", lived(), api.Call{Kind: api.KRecvUntil, Thread: 5, Until: last - 11}, api.ErrTime},
		{"until behind all, at the last time", now(last), api.Call{Kind: api.KSendUntil, Thread: 5, Until: 1}, api.ErrTime},
		{"a tick back", lived(), api.Call{Kind: api.KTick, Val: -1}, api.ErrTime},
		{"a tick behind all", lived(), api.Call{Kind: api.KTick, Val: last + 1}, api.ErrTime},
		{"a tick behind all, from now on", lived(), api.Call{Kind: api.KTick, Val: last - 11}, api.ErrTime},
		{"a tick at the last time", now(last), api.Call{Kind: api.KTick, Val: 1}, api.ErrTime},
		{"none of its threads sends", lived(), api.Call{Kind: api.KSend, Thread: 7}, api.ErrThread},
		{"none of its threads is picked", lived(), api.Call{Kind: api.KPick, Thread: 7}, api.ErrThread},
		{"none of its threads waits until behind all", lived(), api.Call{Kind: api.KRecvUntil, Thread: 7, Until: last}, api.ErrThread},
		{"none of all threads", lived(), api.Call{Kind: api.KPick, Thread: 16}, api.ErrCall},
		{"another one than 0 receives alone", ended(), api.Call{Kind: api.KRecv, Thread: 1}, api.ErrThread},
		{"who runs sends", lived(), api.Call{Kind: api.KSend, Thread: 1, Val: 7}, api.ErrBusy},
		{"who is parked halts", lived(), api.Call{Kind: api.KHalt, Thread: 0}, api.ErrBusy},
		{"who runs waits until behind all", lived(), api.Call{Kind: api.KSendUntil, Thread: 1, Until: last}, api.ErrBusy},
		{"who does nothing is picked", lived(), api.Call{Kind: api.KPick, Thread: 5}, api.ErrIdle},
		{"who is parked is picked", lived(), api.Call{Kind: api.KPick, Thread: 0}, api.ErrParked},
		{"of no state: sends", now(-1), api.Call{Kind: api.KSend, Thread: 5}, api.ErrConfig},
		{"of no state: picks", now(-1), api.Call{Kind: api.KPick, Thread: 1}, api.ErrConfig},
		{"of no state: ticks", now(-1), api.Call{Kind: api.KTick, Val: 1}, api.ErrConfig},
		{"of no state: a sum that wraps round", now(most), api.Call{Kind: api.KSendUntil, Thread: 5, Until: 1}, api.ErrConfig},
		{"of no state: a sum that may be", now(-5), api.Call{Kind: api.KSendUntil, Thread: 5, Until: 9}, api.ErrConfig},
		{"of no state: none of its threads", now(-1), api.Call{Kind: api.KSend, Thread: 7}, api.ErrConfig},
		{"of no state: no kind", now(-1), api.Call{Kind: api.KEvict}, api.ErrCall},
		{"of no state: a tick back", now(-1), api.Call{Kind: api.KTick, Val: -1}, api.ErrTime},
		{"of nothing: no kind", api.State{}, api.Call{}, api.ErrCall},
		{"of nothing: sends", api.State{}, api.Call{Kind: api.KSend}, api.ErrConfig},
	} {
		if x, err := call.Do(c.s, c.x); err != c.want || !same(x, c.s) {
			t.Errorf("%s: %+v, %d, not %+v, %d", c.name, x, err, c.s, c.want)
		}
	}
}

// some goes through calls that happen to fabrics of a few threads.
func some(yield func(x api.Call) bool) {
	for kind := -1; kind < 14; kind++ {
		for thread := -1; thread < 18; thread++ {
			for _, val := range []int{-1, 0, 1, 3, last - 12, last - 5, last, last + 1} {
				for _, until := range []int{-1, 0, 8, last - 12, last - 11, last, last + 1} {
					if !yield(api.Call{Kind: kind, Thread: thread, Val: val, Until: until}) {
						return
					}
				}
			}
		}
	}
}

// P19.3, P19.4: calls of all sorts, that happen to fabrics of all sorts, as the words of the chapter say it; what may be stays so.
func TestDoAsTheWordsSay(t *testing.T) {
	told := map[api.Errno]int{}
	for n, s := range states() {
		may := fabric.Check(s)
		for x := range some {
			want, wrong := done(s, x)
			told[wrong]++
			y, err := call.Do(s, x)
			if err != wrong || !same(y, want) || fabric.Check(y) != may {
				t.Fatalf("%d: Do(%+v) = %+v, %d, not %+v, %d", n, x, y, err, want, wrong)
			}
			if err != api.OK && !same(y, s) {
				t.Fatalf("%d: Do(%+v), of error %d, left %+v, not %+v", n, x, err, y, s)
			}
		}
	}
	for _, err := range []api.Errno{api.OK, api.ErrConfig, api.ErrTime, api.ErrBusy, api.ErrIdle, api.ErrParked, api.ErrThread, api.ErrCall} {
		if told[err] < 3 {
			t.Errorf("error %d was told only %d times", err, told[err])
		}
		delete(told, err)
	}
	if len(told) > 0 {
		t.Errorf("errors of others: %v", told)
	}
}

// P19.4: in all short scripts what may be stays so, and what is refused changes nothing.
func TestScripts(t *testing.T) {
	alphabet := [][]int{
		{1, 0, 7, 0}, {2, 1, 8, 0}, {6, 1, 0, 1}, {7, 0, 0, 0}, {10, 0, 0, 0}, {10, 1, 0, 0}, {11, 0, 1, 0}, {9, 0, 0, 0}, {10, 2, 0, 0},
	}
	did, refused := 0, 0
	var on func(s api.State, deep int)
	on = func(s api.State, deep int) {
		if deep == 0 {
			return
		}
		for _, l := range alphabet {
			x, err := call.Decode(l)
			want, wrong := done(s, api.Call{Kind: l[0], Thread: l[1], Val: l[2], Until: l[3]})
			if err != api.OK {
				if err != wrong {
					t.Fatalf("%v: %d, not %d", l, err, wrong)
				}
				continue
			}
			y, err := call.Do(s, x)
			if err != wrong || !same(y, want) || !fabric.Check(y) {
				t.Fatalf("%v: %+v, %d, not %+v, %d", l, y, err, want, wrong)
			}
			if err == api.OK {
				did++
				on(y, deep-1)
				continue
			}
			refused++
			if !same(y, s) {
				t.Fatalf("%v: %d, and %+v, not %+v", l, err, y, s)
			}
		}
	}
	for _, policy := range []int{api.Block, api.DropNew, api.DropOld} {
		s := laid(api.Config{Log: 1, Threads: 2, Policy: policy, Wait: api.Parking})
		on(s, 7)
		// Thread 1 is about to park.
		on(happened(t, s, slices.Concat([][]int{{6, 1, 0, 1}}, picks(1, 5))...), 7)
	}
	if did < 50_000 || refused < 50_000 {
		t.Errorf("only %d did something, and %d were refused", did, refused)
	}
}

// happened is a fabric behind raw calls, none of which may be refused.
func happened(t *testing.T, s api.State, raw ...[]int) api.State {
	t.Helper()
	for n, l := range raw {
		x, err := call.Decode(l)
		if err != api.OK {
			t.Fatalf("%d: Decode(%v): %d", n, l, err)
		}
		if s, err = call.Do(s, x); err != api.OK {
			t.Fatalf("%d: Do(%v): %d", n, l, err)
		}
	}
	return s
}

// picks are so many raw picks of a thread.
func picks(id, many int) [][]int {
	return slices.Repeat([][]int{{10, id, 0, 0}}, many)
}

// ends tells whether a thread is idle, with that result.
func ends(s api.State, id, result, got int) bool {
	x := s.Threads[id]
	return x.Status == api.TIdle && x.Result == result && x.Got == got
}

// The examples of the whole, in raw calls.
func TestExamples(t *testing.T) {
	empty := func(policy int) api.State {
		return laid(api.Config{Log: 1, Threads: 4, Policy: policy, Wait: api.Parking})
	}
	filled := func(policy int) api.State {
		s := happened(t, empty(policy), slices.Concat([][]int{{1, 0, 5, 0}}, picks(0, 7), [][]int{{1, 0, 6, 0}}, picks(0, 7))...)
		if !slices.Equal(fabric.Queue(s).Vals, []int{5, 6}) {
			t.Fatalf("not filled: %+v", s)
		}
		return s
	}
	s := happened(t, empty(api.Block), slices.Concat([][]int{{1, 0, 7, 0}}, picks(0, 4))...)
	if s.Word.Tail != 0 {
		t.Errorf("1: in too soon: %+v", s)
	}
	if s = happened(t, s, picks(0, 1)...); !slices.Equal(fabric.Queue(s).Vals, []int{7}) {
		t.Errorf("1: not in: %+v", s)
	}
	if s = happened(t, s, picks(0, 2)...); !ends(s, 0, api.ROK, 0) {
		t.Errorf("1: not done: %+v", s)
	}
	if s = happened(t, s, slices.Concat([][]int{{4, 1, 0, 0}}, picks(1, 7))...); !ends(s, 1, api.ROK, 7) {
		t.Errorf("2: not received: %+v", s)
	}
	for policy, result := range map[int]int{api.Block: api.RFull, api.DropNew: api.RDropped} {
		if s := happened(t, filled(policy), slices.Concat([][]int{{2, 1, 8, 0}}, picks(1, 4))...); !ends(s, 1, result, 0) {
			t.Errorf("3, 4: policy %d: %+v", policy, s)
		}
	}
	s = happened(t, filled(api.DropOld), slices.Concat([][]int{{2, 1, 8, 0}}, picks(1, 10))...)
	if !ends(s, 1, api.ROK, 0) || !slices.Equal(fabric.Queue(s).Vals, []int{6, 8}) {
		t.Errorf("4: the oldest one did not go: %+v", s)
	}
	s = happened(t, empty(api.Block), slices.Concat([][]int{{4, 2, 0, 0}}, picks(2, 6))...)
	if x, err := call.Do(s, api.Call{Kind: api.KPick, Thread: 2}); err != api.ErrParked || !same(x, s) {
		t.Errorf("5, 10: not parked: %+v, %d", x, err)
	}
	s = happened(t, s, slices.Concat([][]int{{4, 1, 0, 0}, {1, 0, 7, 0}}, picks(1, 1), picks(0, 6), picks(2, 5))...)
	if !ends(s, 2, api.ROK, 7) {
		t.Errorf("5, 7: the first one in line has nothing: %+v", s)
	}
}

// The examples of the whole that are told by time, or by who closes, in raw calls.
func TestExamplesOfTheEnd(t *testing.T) {
	s := laid(api.Config{Log: 1, Threads: 3, Wait: api.Parking})
	waits := slices.Concat([][]int{{11, 0, 3, 0}, {6, 0, 0, 5}}, picks(0, 6), [][]int{{11, 0, 4, 0}})
	if s = happened(t, s, waits...); s.Threads[0].Status != api.TParked || s.Threads[0].Until != 8 {
		t.Errorf("6: not parked until 8: %+v", s)
	}
	// It looks again, is late, and leaves.
	s = happened(t, s, slices.Concat([][]int{{11, 0, 1, 0}}, picks(0, 2))...)
	if !ends(s, 0, api.RTimeout, 0) || s.Now != 8 {
		t.Errorf("6: not late: %+v", s)
	}
	s = happened(t, s, slices.Concat([][]int{{1, 1, 7, 0}}, picks(1, 7), [][]int{{7, 2, 0, 0}}, picks(2, 3), [][]int{{1, 1, 8, 0}}, picks(1, 4))...)
	if !ends(s, 1, api.RClosed, 0) {
		t.Errorf("8: who sends is not told: %+v", s)
	}
	if s = happened(t, s, slices.Concat([][]int{{4, 0, 0, 0}}, picks(0, 7))...); !ends(s, 0, api.ROK, 7) {
		t.Errorf("8: what is left is not received: %+v", s)
	}
	if s = happened(t, s, slices.Concat([][]int{{4, 0, 0, 0}}, picks(0, 4))...); !ends(s, 0, api.RClosed, 0) {
		t.Errorf("8: who receives is not told: %+v", s)
	}
	s = laid(api.Config{Log: 1, Threads: 3, Wait: api.Parking})
	s = happened(t, s, slices.Concat([][]int{{4, 0, 0, 0}}, picks(0, 6), [][]int{{8, 2, 0, 0}}, picks(2, 3), picks(0, 2))...)
	if !ends(s, 0, api.RHalted, 0) || !ends(s, 2, api.ROK, 0) {
		t.Errorf("9: not halted: %+v", s)
	}
}

// R1: lists far longer than may be, and a long log.
func TestLong(t *testing.T) {
	long := make([]int, 1_000_000)
	for name, by := range map[string]func(s *api.State){
		"slots":   func(s *api.State) { s.Slots = make([]api.Slot, 1_000_000) },
		"threads": func(s *api.State) { s.Threads = make([]api.Thread, 1_000_000) },
		"sends":   func(s *api.State) { s.Sends = long },
		"full":    func(s *api.State) { s.Full.Line = long },
	} {
		s := with(lived(), by)
		for _, x := range []api.Call{{Kind: api.KSend, Thread: 5}, {Kind: api.KPick, Thread: 1}, {Kind: api.KTick, Val: 1}} {
			if y, err := call.Do(s, x); err != api.ErrConfig || !same(y, s) {
				t.Errorf("%s: %+v: %d", name, x, err)
			}
		}
	}
	s := lived()
	s.Log = make([]api.Entry, 500_000)
	for _, x := range []api.Call{{Kind: api.KSend, Thread: 5}, {Kind: api.KPick, Thread: 1}, {Kind: api.KTick, Val: 1}, {}} {
		if y, err := call.Do(s, x); err != checked(x) || len(y.Log) != 500_000 {
			t.Errorf("a long log: %+v: %d, %d", x, err, len(y.Log))
		}
	}
}

// spare is a list with room behind it, in which something stands.
func spare[T any](l []T, behind T) []T {
	m := slices.Grow(slices.Clone(l), 4)
	fill(m[len(m):cap(m)], behind)
	return m
}

// fill writes one thing all over a list.
func fill[T any](l []T, x T) {
	for n := range l {
		l[n] = x
	}
}

// roomy is a state in which all lists have room behind them.
func roomy(s api.State) api.State {
	s.Slots = spare(s.Slots, api.Slot{Stamp: -77})
	s.Threads, s.Log = spare(s.Threads, api.Thread{Val: -77}), spare(s.Log, api.Entry{Val: -77})
	s.Sends, s.Recvs = spare(s.Sends, -77), spare(s.Recvs, -77)
	s.Full.Line, s.Empty.Line = spare(s.Full.Line, -77), spare(s.Empty.Line, -77)
	return s
}

// whole is a state with all that stands in the room behind its lists.
func whole(s api.State) api.State {
	s.Slots, s.Threads, s.Log = s.Slots[:cap(s.Slots)], s.Threads[:cap(s.Threads)], s.Log[:cap(s.Log)]
	s.Sends, s.Recvs = s.Sends[:cap(s.Sends)], s.Recvs[:cap(s.Recvs)]
	s.Full.Line, s.Empty.Line = s.Full.Line[:cap(s.Full.Line)], s.Empty.Line[:cap(s.Empty.Line)]
	return s
}

// lines are the lists of threads that a state has.
func lines(s api.State) [][]int {
	return [][]int{s.Sends, s.Recvs, s.Full.Line, s.Empty.Line}
}

// spoil writes all over what a state has, and over the room behind it.
func spoil(s api.State) {
	s = whole(s)
	fill(s.Slots, api.Slot{Stamp: -99, Val: -99})
	fill(s.Threads, api.Thread{Val: -99})
	fill(s.Log, api.Entry{Val: -99})
	for _, l := range lines(s) {
		fill(l, -99)
	}
}

// asked are calls of each sort, and some that are refused.
func asked() []api.Call {
	return []api.Call{
		{Kind: api.KSend, Thread: 5, Val: 7}, {Kind: api.KSendUntil, Thread: 0, Until: 5}, {Kind: api.KRecvUntil, Until: 1},
		{Kind: api.KHalt, Thread: 6}, {Kind: api.KPick, Thread: 1}, {Kind: api.KPick, Thread: 2}, {Kind: api.KPick, Thread: 4},
		{Kind: api.KTick, Val: 0}, {Kind: api.KTick, Val: 3}, {Kind: api.KTick, Val: 30}, {Kind: api.KTick, Val: -1}, {}, {Kind: api.KEvict},
	}
}

// answer is what is answered of one call.
type answer struct {
	s   api.State
	err api.Errno
}

// answers has all that is answered of a state.
func answers(s api.State) []answer {
	var l []answer
	for _, x := range asked() {
		y, err := call.Do(s, x)
		l = append(l, answer{y, err})
	}
	return l
}

// equal tells whether two answers have the same in them.
func equal(a, b answer) bool {
	return same(a.s, b.s) && a.err == b.err
}

// R3: what is handed in is neither changed nor kept, its spare room included.
func TestHandedIn(t *testing.T) {
	for n, from := range states() {
		s := roomy(from)
		was := apart(whole(s))
		var is []answer
		for _, a := range answers(s) {
			is = append(is, answer{apart(a.s), a.err})
			spoil(a.s)
			if !same(whole(s), was) {
				t.Fatalf("%d: what was handed in is %+v, not %+v", n, whole(s), was)
			}
		}
		l := answers(s)
		spoil(s)
		if !slices.EqualFunc(l, is, equal) {
			t.Fatalf("%d: what was handed in is kept", n)
		}
	}
	raw := spare([]int{3, 1, 2, 4}, -77)
	was := slices.Clone(raw[:cap(raw)])
	x, err := call.Decode(raw)
	if err != api.OK || !slices.Equal(raw[:cap(raw)], was) {
		t.Errorf("numbers are %v, %d", raw[:cap(raw)], err)
	}
	l := call.Encode(x)
	fill(l[:cap(l)], -99)
	if !slices.Equal(call.Encode(x), []int{3, 1, 2, 4}) || !slices.Equal(raw, []int{3, 1, 2, 4}) {
		t.Errorf("numbers are kept: %v, %v", call.Encode(x), raw)
	}
}

// R3: no two lists of one answer share memory, though those handed in do.
func TestShareNothing(t *testing.T) {
	one := []int{2, 3, 1, 0}
	for n, from := range states() {
		for _, by := range []func(s *api.State){
			func(s *api.State) { s.Sends, s.Recvs, s.Full.Line, s.Empty.Line = one, one, one, one },
			func(s *api.State) { s.Sends, s.Recvs, s.Full.Line, s.Empty.Line = one[1:2], one[:1], one[1:], one[3:] },
			func(s *api.State) { s.Sends, s.Recvs, s.Full.Line, s.Empty.Line = one[:0], one[:0], one, one[:0] },
		} {
			for m, a := range answers(with(from, by)) {
				was := lines(apart(a.s))
				for x, l := range lines(a.s) {
					fill(l[:cap(l)], -99)
					for y, other := range lines(a.s) {
						if x != y && !slices.Equal(other, was[y]) {
							t.Fatalf("%d, %d: lists %d and %d share memory", n, m, x, y)
						}
						copy(other, was[y])
					}
				}
			}
			if !slices.Equal(one, []int{2, 3, 1, 0}) {
				t.Fatalf("%d: %v", n, one)
			}
		}
	}
}

// R4: the same is answered of the same, in whatever order it is asked, whatever room is behind, and however goroutines run.
func TestSameAnswers(t *testing.T) {
	l := states()
	var want [][]answer
	for _, s := range l {
		want = append(want, answers(s))
	}
	var group sync.WaitGroup
	for n := range 8 {
		group.Go(func() {
			for m := range l {
				m = (m*5 + n) % len(l)
				s := l[m]
				if n%2 == 1 {
					s = roomy(s)
				}
				if !slices.EqualFunc(answers(s), want[m], equal) {
					t.Errorf("of %+v another answer", l[m])
				}
			}
		})
	}
	group.Wait()
}
