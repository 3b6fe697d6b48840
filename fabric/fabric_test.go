package fabric_test

import (
	"slices"
	"sync"
	"testing"

	"sakia/api"
	"sakia/fabric"
)

const (
	most  = 1<<63 - 1
	least = -1 << 63
	last  = 1 << 40
)

// far are numbers far outside of all bounds but those of values, and some that go round to 0, 1, or 2.
var far = []int{least, least + 1, -1 << 41, -last - 1, -last, 1<<41 + 1, 1 << 48, 1<<56 + 2, most - 1, most}

// ids are numbers of threads, beside them, and far outside.
var ids = slices.Concat(far, []int{-2, -1, 0, 1, 2, 3, 4, 15, 16, 1 << 32, 1<<32 + 1})

// kinds are the eight, and such as threads do not do.
var kinds = []int{least, -1, 0, 1, 2, 3, 4, 5, 6, 7, 8, api.KEvict, api.KPick, api.KTick, 12, 1<<32 + 3, most}

// change makes of a state another one.
type change struct {
	name string
	by   func(s *api.State)
}

// lived is a fabric of room 4, and of four threads, in which all lists have something.
func lived() api.State {
	return api.State{
		Config: api.Config{Log: 2, Threads: 4, Policy: api.DropOld, Wait: api.Phased, Spin: 2, Yield: 1},
		Word:   api.Word{Head: 6, Tail: 9, Mode: api.Draining},
		Slots:  []api.Slot{{Stamp: 8, Val: 80}, {Stamp: 9, Val: 90}, {Stamp: 6, Val: 60}, {Stamp: 7, Val: 70}},
		Sends:  []int{2, 0}, Recvs: []int{1},
		Full: api.Event{Epoch: 3, Line: []int{0}}, Empty: api.Event{Epoch: 5, Line: []int{3, 1}},
		Now: 12,
		Threads: []api.Thread{
			{Status: api.TParked, Kind: api.KSendUntil, Val: 100, Until: 20, Pc: 2, Reg: 6, Seen: 3},
			{Status: api.TParked, Kind: api.KRecv, Val: 101, Pc: 2, Seen: 5},
			{Status: api.TRuns, Kind: api.KSend, Val: 102, Pc: 1, Tries: 4},
			{Kind: api.KTryRecv, Val: 103, Result: api.ROK, Got: 50},
		},
		Log: []api.Entry{{Thread: 3, Kind: api.KTryRecv, Val: 103, Result: api.ROK, Got: 50}},
	}
}

// lone is a fabric of which thread 0 alone receives, as it is at first.
func lone() api.State {
	return api.State{
		Config:  api.Config{Log: 1, Threads: 3, Policy: api.DropNew, Single: true},
		Slots:   []api.Slot{{}, {Stamp: 1}},
		Threads: make([]api.Thread, 3),
	}
}

// ended is a fabric at all its upper bounds, of one thread.
func ended() api.State {
	return api.State{
		Config:  api.Config{Log: 1, Threads: 1, Policy: api.Block, Wait: api.Phased, Spin: 8, Yield: 8, Single: true},
		Word:    api.Word{Head: last - 2, Tail: last, Mode: api.Halted},
		Slots:   []api.Slot{{Stamp: 2 * last, Val: most}, {Stamp: 2*last - 1, Val: least}},
		Sends:   []int{0},
		Recvs:   []int{0},
		Full:    api.Event{Epoch: last, Line: []int{0}},
		Empty:   api.Event{Epoch: last, Line: []int{0}},
		Now:     last,
		Threads: []api.Thread{{Status: api.TParked, Kind: api.KSendUntil, Val: most, Until: last, Pc: 11, Reg: last, Seen: last, Tries: last, Late: true, Result: api.RHalted, Got: most}},
		Log:     []api.Entry{{Thread: -1, Kind: least, Val: most, Result: 99, Got: most}, {}},
	}
}

// great is a fabric that has as much as may be.
func great() api.State {
	s := api.State{Config: api.Config{Log: 6, Threads: 16, Wait: api.Parking}, Word: api.Word{Tail: 64}}
	for n := range 64 {
		s.Slots = append(s.Slots, api.Slot{Stamp: n, Val: 1000 + n})
	}
	for n := range 16 {
		s.Sends, s.Recvs = append(s.Sends, n), append(s.Recvs, 15-n)
		s.Full.Line, s.Empty.Line = append(s.Full.Line, 15-n), append(s.Empty.Line, n)
		s.Threads = append(s.Threads, api.Thread{Status: api.TRuns, Kind: api.KRecv, Val: n})
	}
	return s
}

// roots are states that may be.
func roots() []api.State {
	return []api.State{lived(), lone(), ended(), great()}
}

// apart is a state that shares no memory with another one.
func apart(s api.State) api.State {
	s.Slots, s.Threads, s.Log = slices.Clone(s.Slots), slices.Clone(s.Threads), slices.Clone(s.Log)
	s.Sends, s.Recvs = slices.Clone(s.Sends), slices.Clone(s.Recvs)
	s.Full.Line, s.Empty.Line = slices.Clone(s.Full.Line), slices.Clone(s.Empty.Line)
	return s
}

// with is a state that is changed.
func with(s api.State, by func(s *api.State)) api.State {
	s = apart(s)
	by(&s)
	return s
}

// same tells whether two states have the same in them.
func same(a, b api.State) bool {
	return a.Config == b.Config && a.Word == b.Word && a.Now == b.Now &&
		slices.Equal(a.Slots, b.Slots) && slices.Equal(a.Threads, b.Threads) && slices.Equal(a.Log, b.Log) &&
		slices.Equal(a.Sends, b.Sends) && slices.Equal(a.Recvs, b.Recvs) &&
		a.Full.Epoch == b.Full.Epoch && slices.Equal(a.Full.Line, b.Full.Line) &&
		a.Empty.Epoch == b.Empty.Epoch && slices.Equal(a.Empty.Line, b.Empty.Line)
}

// alike tells whether two queues have the same in them.
func alike(a, b api.Queue) bool {
	return slices.Equal(a.Vals, b.Vals) && a.Cap == b.Cap && a.Policy == b.Policy && a.Mode == b.Mode
}

// number is one of the numbers of a state.
type number struct {
	name string
	at   func(s *api.State) *int
}

// numbers are the numbers of a state; of those that there are many of, the first, or the last.
func numbers() []number {
	return []number{
		{"Log", func(s *api.State) *int { return &s.Config.Log }},
		{"Threads", func(s *api.State) *int { return &s.Config.Threads }},
		{"Policy", func(s *api.State) *int { return &s.Config.Policy }},
		{"Wait", func(s *api.State) *int { return &s.Config.Wait }},
		{"Spin", func(s *api.State) *int { return &s.Config.Spin }},
		{"Yield", func(s *api.State) *int { return &s.Config.Yield }},
		{"Head", func(s *api.State) *int { return &s.Word.Head }},
		{"Tail", func(s *api.State) *int { return &s.Word.Tail }},
		{"Mode", func(s *api.State) *int { return &s.Word.Mode }},
		{"the Stamp", func(s *api.State) *int { return &s.Slots[len(s.Slots)-1].Stamp }},
		{"what lies there", func(s *api.State) *int { return &s.Slots[0].Val }},
		{"Full", func(s *api.State) *int { return &s.Full.Epoch }},
		{"Empty", func(s *api.State) *int { return &s.Empty.Epoch }},
		{"Now", func(s *api.State) *int { return &s.Now }},
		{"Status", func(s *api.State) *int { return &s.Threads[0].Status }},
		{"Kind", func(s *api.State) *int { return &s.Threads[len(s.Threads)-1].Kind }},
		{"Val", func(s *api.State) *int { return &s.Threads[0].Val }},
		{"Until", func(s *api.State) *int { return &s.Threads[0].Until }},
		{"Pc", func(s *api.State) *int { return &s.Threads[len(s.Threads)-1].Pc }},
		{"Reg", func(s *api.State) *int { return &s.Threads[0].Reg }},
		{"Seen", func(s *api.State) *int { return &s.Threads[len(s.Threads)-1].Seen }},
		{"Tries", func(s *api.State) *int { return &s.Threads[0].Tries }},
		{"Result", func(s *api.State) *int { return &s.Threads[len(s.Threads)-1].Result }},
		{"Got", func(s *api.State) *int { return &s.Threads[0].Got }},
	}
}

// stands are the lines of a state, each with another one instead.
func stands(l []int) []change {
	return []change{
		{"Sends", func(s *api.State) { s.Sends = slices.Clone(l) }},
		{"Recvs", func(s *api.State) { s.Recvs = slices.Clone(l) }},
		{"the line of Full", func(s *api.State) { s.Full.Line = slices.Clone(l) }},
		{"the line of Empty", func(s *api.State) { s.Empty.Line = slices.Clone(l) }},
	}
}

// changes has what may be done to states, such that they may be, or may not.
func changes() []change {
	l := []change{
		{"single", func(s *api.State) { s.Config.Single = !s.Config.Single }},
		{"late", func(s *api.State) { s.Threads[0].Late = !s.Threads[0].Late }},
		{"no slots", func(s *api.State) { s.Slots = nil }},
		{"a slot less", func(s *api.State) { s.Slots = s.Slots[:len(s.Slots)-1] }},
		{"half the slots", func(s *api.State) { s.Slots = s.Slots[:len(s.Slots)/2] }},
		{"a slot more", func(s *api.State) { s.Slots = append(s.Slots, api.Slot{Stamp: len(s.Slots)}) }},
		{"slots turned", func(s *api.State) { slices.Reverse(s.Slots) }},
		{"a lap later", func(s *api.State) { s.Slots[0].Stamp += len(s.Slots) }},
		{"no threads", func(s *api.State) { s.Threads = nil }},
		{"a thread less", func(s *api.State) { s.Threads = s.Threads[:len(s.Threads)-1] }},
		{"a thread more", func(s *api.State) { s.Threads = append(s.Threads, api.Thread{}) }},
		{"threads turned", func(s *api.State) { slices.Reverse(s.Threads) }},
		{"nothing told", func(s *api.State) { s.Log = nil }},
		{"anything told", func(s *api.State) { s.Log = append(s.Log, api.Entry{Thread: -7, Kind: 99, Result: -1, Got: least}) }},
		{"full", func(s *api.State) { s.Word.Tail = s.Word.Head + len(s.Slots) }},
		{"more than full", func(s *api.State) { s.Word.Tail = s.Word.Head + len(s.Slots) + 1 }},
		{"empty", func(s *api.State) { s.Word.Tail = s.Word.Head }},
		{"less than empty", func(s *api.State) { s.Word.Tail = s.Word.Head - 1 }},
		{"one more thread, and Threads", func(s *api.State) {
			s.Config.Threads++
			s.Threads = append(s.Threads, api.Thread{})
		}},
		{"no room for phases", func(s *api.State) { s.Config.Wait, s.Config.Spin, s.Config.Yield = api.Parking, 0, 0 }},
	}
	for _, x := range numbers() {
		for _, n := range slices.Concat(far, []int{-2, -1, 0, 1, 2, 3, 4, 6, 7, 8, 9, 11, 12, 15, 16, 17, last - 1, last, last + 1}) {
			l = append(l, change{x.name, func(s *api.State) { *x.at(s) = n }})
		}
	}
	for _, line := range [][]int{nil, {0}, {1}, {2}, {3}, {4}, {15}, {16}, {-1}, {1, 0}, {0, 0}, {0, 1, 0}, {2, 3}, {3, 4}, {0, -1}, {3, 2, 1, 0}, {1 << 32}, {least}, {most}} {
		l = append(l, stands(line)...)
	}
	return l
}

// eight tells whether a kind is what threads do.
func eight(kind int) bool { return 1 <= kind && kind <= 8 }

// timed tells whether who does it waits until a time.
func timed(kind int) bool { return kind == 3 || kind == 6 }

// in tells whether n is from low to high.
func in(n, low, high int) bool { return low <= n && n <= high }

// mayConf is what chapter 2 says of which configurations may be.
func mayConf(c api.Config) bool {
	if c.Wait != 2 && (c.Spin != 0 || c.Yield != 0) {
		return false
	}
	return in(c.Log, 1, 6) && in(c.Threads, 1, 16) && in(c.Policy, 0, 2) && in(c.Wait, 0, 3) && in(c.Spin, 0, 8) && in(c.Yield, 0, 8)
}

// mayThread is what chapter 12 says of which threads may be.
func mayThread(t api.Thread) bool {
	if !in(t.Status, 0, 2) || !eight(t.Kind) && (t.Kind != 0 || t.Status != 0) || !in(t.Until, 0, last) || !timed(t.Kind) && (t.Until != 0 || t.Late) {
		return false
	}
	if !in(t.Pc, 0, 11) || !in(t.Tries, 0, last) || !in(t.Reg, 0, last) || !in(t.Seen, -1, last) || !in(t.Result, 0, 7) {
		return false
	}
	return t.Status != 0 || t.Pc == 0 && t.Reg == 0 && t.Seen == 0 && t.Tries == 0 && !t.Late
}

// mayLine is what is said of lines: nobody stands there twice, and none that is not a thread.
func mayLine(l []int, threads int) bool {
	for n, id := range l {
		if id < 0 || id >= threads || slices.Contains(l[:n], id) {
			return false
		}
	}
	return true
}

// may is what the chapter says of which states may be.
func may(s api.State) bool {
	c, w := s.Config, s.Word
	if !mayConf(c) || len(s.Slots) != 1<<c.Log || len(s.Threads) != c.Threads {
		return false
	}
	if w.Head < 0 || w.Tail < w.Head || w.Tail > last || w.Tail-w.Head > len(s.Slots) || !in(w.Mode, 0, 2) {
		return false
	}
	for n, x := range s.Slots {
		if !in(x.Stamp, 0, 2*last) || x.Stamp%len(s.Slots) != n {
			return false
		}
	}
	for _, l := range [][]int{s.Sends, s.Recvs, s.Full.Line, s.Empty.Line} {
		if !mayLine(l, c.Threads) {
			return false
		}
	}
	for _, t := range s.Threads {
		if !mayThread(t) {
			return false
		}
	}
	return in(s.Full.Epoch, 0, last) && in(s.Empty.Epoch, 0, last) && in(s.Now, 0, last)
}

// sorts has states of all sorts: such as may be, and such as may not.
func sorts() []api.State {
	l := []api.State{{}}
	for _, s := range roots() {
		l = append(l, s)
		for _, c := range changes() {
			l = append(l, with(s, c.by))
		}
	}
	return l
}

// good has those of all sorts that may be.
func good() []api.State {
	return slices.DeleteFunc(sorts(), func(s api.State) bool { return !may(s) })
}

// P13.1: a fabric at first, of some that may be, in full.
func TestNew(t *testing.T) {
	for name, c := range map[string]struct {
		c    api.Config
		want api.State
	}{
		"the chapter's example": {api.Config{Log: 1, Threads: 2}, api.State{
			Config: api.Config{Log: 1, Threads: 2}, Slots: []api.Slot{{}, {Stamp: 1}}, Threads: []api.Thread{{}, {}}}},
		"one thread, alone": {api.Config{Log: 1, Threads: 1, Policy: api.DropOld, Single: true}, api.State{
			Config: api.Config{Log: 1, Threads: 1, Policy: api.DropOld, Single: true}, Slots: []api.Slot{{}, {Stamp: 1}}, Threads: []api.Thread{{}}}},
		"phases": {api.Config{Log: 2, Threads: 3, Policy: api.DropNew, Wait: api.Phased, Spin: 8, Yield: 3}, api.State{
			Config: api.Config{Log: 2, Threads: 3, Policy: api.DropNew, Wait: api.Phased, Spin: 8, Yield: 3},
			Slots:  []api.Slot{{}, {Stamp: 1}, {Stamp: 2}, {Stamp: 3}}, Threads: []api.Thread{{}, {}, {}}}},
		"that of which thread 0 alone receives": {lone().Config, lone()},
	} {
		if s, err := fabric.New(c.c); err != api.OK || !same(s, c.want) {
			t.Errorf("%s: %+v, %d, not %+v", name, s, err, c.want)
		}
	}
}

// P13.1, P13.5: a fabric at first, of all that may be: it may be, and is an empty queue.
func TestNewOfAll(t *testing.T) {
	for log := 1; log <= 6; log++ {
		for threads := 1; threads <= 16; threads++ {
			for n := range 3 * 4 * 2 {
				c := api.Config{Log: log, Threads: threads, Policy: n % 3, Wait: n / 3 % 4, Single: n/12 == 1}
				if c.Wait == api.Phased {
					c.Spin, c.Yield = threads%9, log
				}
				want := api.State{Config: c, Threads: make([]api.Thread, threads)}
				for n := range 1 << log {
					want.Slots = append(want.Slots, api.Slot{Stamp: n})
				}
				s, err := fabric.New(c)
				if err != api.OK || !same(s, want) || !fabric.Check(s) {
					t.Fatalf("%+v: %+v, %d", c, s, err)
				}
				if q := fabric.Queue(s); !alike(q, api.Queue{Cap: 1 << log, Policy: c.Policy}) {
					t.Fatalf("%+v: the queue is %+v", c, q)
				}
			}
		}
	}
}

// P13.1, R2: of what may not be there is an error, and nothing.
func TestNewWrong(t *testing.T) {
	for name, c := range map[string]api.Config{
		"nothing":                  {},
		"log below":                {Log: 0, Threads: 1},
		"log above":                {Log: 7, Threads: 1},
		"far below":                {Log: least, Threads: 1},
		"far above":                {Log: most, Threads: 1},
		"a log that goes round":    {Log: 1<<32 + 1, Threads: 1},
		"threads below":            {Log: 1, Threads: 0},
		"threads above":            {Log: 1, Threads: 17},
		"threads far below":        {Log: 1, Threads: least},
		"threads far above":        {Log: 1, Threads: most},
		"policy below":             {Log: 1, Threads: 1, Policy: -1},
		"policy above":             {Log: 1, Threads: 1, Policy: 3},
		"wait below":               {Log: 1, Threads: 1, Wait: -1},
		"wait above":               {Log: 1, Threads: 1, Wait: 4},
		"spins below":              {Log: 1, Threads: 1, Wait: 2, Spin: -1},
		"spins above":              {Log: 1, Threads: 1, Wait: 2, Spin: 9},
		"yields above":             {Log: 1, Threads: 1, Wait: 2, Yield: 9},
		"spins of who parks":       {Log: 1, Threads: 1, Wait: 3, Spin: 1},
		"yields of who is busy":    {Log: 1, Threads: 1, Yield: 1},
		"all of it, far above all": {Log: most, Threads: most, Policy: most, Wait: most, Spin: most, Yield: most, Single: true},
	} {
		if s, err := fabric.New(c); err != api.ErrConfig || !same(s, api.State{}) {
			t.Errorf("%s: %+v, %d", name, s, err)
		}
	}
}

// P13.1: which states may be.
func TestCheck(t *testing.T) {
	for _, s := range roots() {
		if !fabric.Check(s) {
			t.Errorf("%+v may be", s)
		}
	}
	for _, c := range []change{
		{"nobody stands anywhere", func(s *api.State) { s.Sends, s.Recvs, s.Full.Line, s.Empty.Line = nil, nil, nil, []int{} }},
		{"all stand everywhere", func(s *api.State) {
			s.Sends, s.Recvs, s.Full.Line, s.Empty.Line = []int{0, 1, 2, 3}, []int{3, 2, 1, 0}, []int{1, 0, 3, 2}, []int{2, 0, 3, 1}
		}},
		{"the last thread stands", func(s *api.State) { s.Sends = []int{3} }},
		{"who does nothing stands", func(s *api.State) { s.Full.Line = []int{3} }},
		{"nothing was told", func(s *api.State) { s.Log = nil }},
		{"anything was told", func(s *api.State) { s.Log = []api.Entry{{Thread: -1, Kind: 99, Val: most, Result: -9, Got: least}} }},
		{"empty", func(s *api.State) { s.Word.Head = 9 }},
		{"full", func(s *api.State) { s.Word.Tail = 10 }},
		{"a word far from its slots", func(s *api.State) { s.Word = api.Word{Head: last - 4, Tail: last} }},
		{"at the first time", func(s *api.State) { s.Now = 0 }},
		{"at the last time", func(s *api.State) { s.Now = last }},
		{"events that never came", func(s *api.State) { s.Full.Epoch, s.Empty.Epoch = 0, 0 }},
		{"events that came most often", func(s *api.State) { s.Full.Epoch, s.Empty.Epoch = last, last }},
		{"threads that do nothing", func(s *api.State) { s.Threads = make([]api.Thread, 4) }},
		{"thread 0 alone receives, another one does", func(s *api.State) { s.Config.Single = true }},
	} {
		if s := with(lived(), c.by); !fabric.Check(s) {
			t.Errorf("%s: %+v may be", c.name, s)
		}
	}
}

// broken has what makes lived one that may not be, for one thing each.
func broken() []change {
	return []change{
		{"a configuration that may not be", func(s *api.State) { s.Config.Policy = 3 }},
		{"a configuration of nothing", func(s *api.State) { s.Config = api.Config{} }},
		{"spins without phases", func(s *api.State) { s.Config.Wait = api.Parking }},
		{"a lesser room", func(s *api.State) { s.Config.Log = 1 }},
		{"a greater room", func(s *api.State) { s.Config.Log = 3 }},
		{"fewer threads", func(s *api.State) { s.Config.Threads = 3 }},
		{"more threads", func(s *api.State) { s.Config.Threads = 5 }},
		{"a head below 0", func(s *api.State) { s.Word.Head, s.Word.Tail = -1, 0 }},
		{"a tail below the head", func(s *api.State) { s.Word.Tail = 5 }},
		{"a tail above the room", func(s *api.State) { s.Word.Tail = 11 }},
		{"a tail above the last position", func(s *api.State) { s.Word = api.Word{Head: last, Tail: last + 1} }},
		{"a tail far above", func(s *api.State) { s.Word.Tail = most }},
		{"a mode below", func(s *api.State) { s.Word.Mode = -1 }},
		{"a mode above", func(s *api.State) { s.Word.Mode = 3 }},
		{"no slots", func(s *api.State) { s.Slots = nil }},
		{"a slot less", func(s *api.State) { s.Slots = []api.Slot{{}, {Stamp: 1}, {Stamp: 2}} }},
		{"half the slots", func(s *api.State) { s.Slots = []api.Slot{{}, {Stamp: 1}} }},
		{"twice the slots", func(s *api.State) {
			s.Slots = nil
			for n := range 8 {
				s.Slots = append(s.Slots, api.Slot{Stamp: n})
			}
		}},
		{"a slot that is at the place of another", func(s *api.State) { s.Slots[3].Stamp = 6 }},
		{"a slot below 0", func(s *api.State) { s.Slots[0].Stamp = -4 }},
		{"a slot above", func(s *api.State) { s.Slots[0].Stamp = 2*last + 4 }},
		{"sends, none that is a thread", func(s *api.State) { s.Sends = []int{4} }},
		{"receives, none that is a thread", func(s *api.State) { s.Recvs = []int{1, 4} }},
		{"waits for room, none that is a thread", func(s *api.State) { s.Full.Line = []int{15} }},
		{"waits for something, none that is a thread", func(s *api.State) { s.Empty.Line = []int{0, 1, 2, 3, 4} }},
		{"sends, twice", func(s *api.State) { s.Sends = []int{2, 2} }},
		{"receives, twice", func(s *api.State) { s.Recvs = []int{1, 0, 1} }},
		{"waits for room, twice", func(s *api.State) { s.Full.Line = []int{0, 0} }},
		{"waits for something, twice", func(s *api.State) { s.Empty.Line = []int{3, 1, 3} }},
		{"sends, below 0", func(s *api.State) { s.Sends = []int{-1} }},
		{"receives, below 0", func(s *api.State) { s.Recvs = []int{-1} }},
		{"waits for room, below 0", func(s *api.State) { s.Full.Line = []int{0, -1} }},
		{"waits for something, far below 0", func(s *api.State) { s.Empty.Line = []int{least} }},
		{"sends, above all", func(s *api.State) { s.Sends = []int{16} }},
		{"receives, far above all", func(s *api.State) { s.Recvs = []int{most} }},
		{"receives, one that goes round", func(s *api.State) { s.Recvs = []int{1 << 32} }},
		{"room came less than never", func(s *api.State) { s.Full.Epoch = -1 }},
		{"something came less than never", func(s *api.State) { s.Empty.Epoch = -1 }},
		{"room came too often", func(s *api.State) { s.Full.Epoch = last + 1 }},
		{"something came too often", func(s *api.State) { s.Empty.Epoch = last + 1 }},
		{"ahead of all time", func(s *api.State) { s.Now = -1 }},
		{"behind all time", func(s *api.State) { s.Now = last + 1 }},
		{"far ahead of all time", func(s *api.State) { s.Now = least }},
		{"far behind all time", func(s *api.State) { s.Now = most }},
		{"no threads", func(s *api.State) { s.Threads = nil }},
		{"a thread less", func(s *api.State) { s.Threads = s.Threads[:3] }},
		{"a thread more", func(s *api.State) { s.Threads = append(s.Threads, api.Thread{}) }},
		{"the first thread may not be", func(s *api.State) { s.Threads[0].Kind = 9 }},
		{"one in the midst may not be", func(s *api.State) { s.Threads[2].Status = 3 }},
		{"the last thread may not be", func(s *api.State) { s.Threads[3].Pc = 1 }},
		{"a thread has no result that may be", func(s *api.State) { s.Threads[1].Result = 8 }},
	}
}

// P13.1, P13.2, P13.3, P13.4, R2: what may not be, and what is told of it: nothing is done.
func TestWrong(t *testing.T) {
	for _, c := range append(broken(), change{"nothing at all", func(s *api.State) { *s = api.State{} }}) {
		s := with(lived(), c.by)
		if fabric.Check(s) {
			t.Errorf("%s: %+v may not be", c.name, s)
		}
		if q := fabric.Queue(s); !alike(q, api.Queue{}) {
			t.Errorf("%s: the queue is %+v", c.name, q)
		}
		for _, p := range []int{-1, 0, 1, 6, 7, 8, most} {
			if val := fabric.Value(s, p); val != 0 {
				t.Errorf("%s: %d lies at %d", c.name, val, p)
			}
		}
		for _, id := range ids {
			// Whoever it is, and whatever it shall do, the state is told of first.
			for _, kind := range kinds {
				if x, err := fabric.Invoke(s, id, kind, 5, 13); err != api.ErrConfig || !same(x, s) {
					t.Fatalf("%s: Invoke of %d, %d: %+v, %d", c.name, id, kind, x, err)
				}
				if x := fabric.Tell(s, id, kind, api.ROK, 5); !same(x, s) {
					t.Fatalf("%s: Tell of %d, %d: %+v", c.name, id, kind, x)
				}
			}
			if x := fabric.Wake(s, id); !same(x, s) {
				t.Fatalf("%s: Wake of %d: %+v", c.name, id, x)
			}
		}
	}
}

// P13.1: of each one that two changes make, as the words of the chapter say it.
func TestCheckAsTheWordsSay(t *testing.T) {
	are := 0
	check := func(s api.State, names ...string) {
		t.Helper()
		is := may(s)
		if fabric.Check(s) != is {
			t.Fatalf("%v: %+v: %v, not %v", names, s, !is, is)
		}
		if is {
			are++
		}
	}
	for _, s := range []api.State{lived(), ended()} {
		for _, a := range changes() {
			x := with(s, a.by)
			check(x, a.name)
			if len(x.Slots) == 0 || len(x.Threads) == 0 {
				continue
			}
			for _, b := range changes() {
				check(with(x, b.by), a.name, b.name)
			}
		}
	}
	if are < 10_000 {
		t.Errorf("only %d may be", are)
	}
}

// P13.2: what lies at a position, there or not.
func TestValue(t *testing.T) {
	for _, c := range []struct {
		name string
		s    api.State
		p    int
		want int
	}{
		{"the first one there", lived(), 6, 60},
		{"the second", lived(), 7, 70},
		{"the last one there, a lap later", lived(), 8, 80},
		{"behind the last one", lived(), 9, 90},
		{"laps behind", lived(), 2, 60},
		{"at 0", lived(), 0, 80},
		{"laps later", lived(), 4*250 + 3, 70},
		{"at the last position", lived(), last, 80},
		{"behind the last position", lived(), last + 1, 90},
		{"the greatest number", lived(), most, 70},
		{"below 0", lived(), -1, 0},
		{"below 0, at its place", lived(), -4, 0},
		{"far below 0", lived(), least, 0},
		{"the greatest value", ended(), last, most},
		{"the least value", ended(), last - 1, least},
		{"at first", lone(), 0, 0},
		{"the last of 64", great(), 63, 1063},
		{"of 64, a lap later", great(), 64, 1000},
		{"nothing", api.State{}, 0, 0},
	} {
		if val := fabric.Value(c.s, c.p); val != c.want {
			t.Errorf("%s: %d, not %d", c.name, val, c.want)
		}
	}
}

// P13.2: what a fabric is told by.
func TestQueue(t *testing.T) {
	for _, c := range []struct {
		name string
		s    api.State
		want api.Queue
	}{
		{"the chapter's example", api.State{Config: api.Config{Log: 1, Threads: 2}, Slots: []api.Slot{{}, {Stamp: 1}}, Threads: make([]api.Thread, 2)}, api.Queue{Cap: 2}},
		{"of room 4, three there, draining", lived(), api.Queue{Vals: []int{60, 70, 80}, Cap: 4, Policy: api.DropOld, Mode: api.Draining}},
		{"full", with(lived(), func(s *api.State) { s.Word.Tail = 10 }), api.Queue{Vals: []int{60, 70, 80, 90}, Cap: 4, Policy: api.DropOld, Mode: api.Draining}},
		{"one there", with(lived(), func(s *api.State) { s.Word = api.Word{Head: 8, Tail: 9} }), api.Queue{Vals: []int{80}, Cap: 4, Policy: api.DropOld}},
		{"none there, behind", with(lived(), func(s *api.State) { s.Word.Head = 9 }), api.Queue{Cap: 4, Policy: api.DropOld, Mode: api.Draining}},
		{"some that were not written yet", with(lived(), func(s *api.State) { s.Word = api.Word{Head: 1, Tail: 4, Mode: api.Open} }), api.Queue{Vals: []int{90, 60, 70}, Cap: 4, Policy: api.DropOld}},
		{"at first", lone(), api.Queue{Cap: 2, Policy: api.DropNew}},
		{"at the last position, halted", ended(), api.Queue{Vals: []int{most, least}, Cap: 2, Mode: api.Halted}},
		{"nothing", api.State{}, api.Queue{}},
	} {
		if q := fabric.Queue(c.s); !alike(q, c.want) {
			t.Errorf("%s: %+v, not %+v", c.name, q, c.want)
		}
	}
	q := fabric.Queue(great())
	if len(q.Vals) != 64 || q.Cap != 64 || q.Vals[0] != 1000 || q.Vals[63] != 1063 || !slices.IsSorted(q.Vals) {
		t.Errorf("of 64: %+v", q)
	}
}

// value is what the chapter says of what lies at a position.
func value(s api.State, p int) int {
	if !may(s) || p < 0 {
		return 0
	}
	return s.Slots[p%len(s.Slots)].Val
}

// P13.2: of states of all sorts, as the words of the chapter say it.
func TestQueueAsTheWordsSay(t *testing.T) {
	for _, s := range sorts() {
		for _, p := range slices.Concat(far, []int{-65, -4, -2, -1, 0, 1, 2, 3, 4, 5, 6, 7, 63, 64, last - 1, last, last + 1}) {
			if val := fabric.Value(s, p); val != value(s, p) {
				t.Fatalf("Value(%+v, %d) = %d, not %d", s, p, val, value(s, p))
			}
		}
		want := api.Queue{}
		if may(s) {
			want = api.Queue{Cap: 1 << s.Config.Log, Policy: s.Config.Policy, Mode: s.Word.Mode}
			for p := s.Word.Head; p < s.Word.Tail; p++ {
				want.Vals = append(want.Vals, value(s, p))
			}
		}
		if q := fabric.Queue(s); !alike(q, want) {
			t.Fatalf("Queue(%+v) = %+v, not %+v", s, q, want)
		}
	}
}

// P13.3: who begins something, and who may not.
func TestInvoke(t *testing.T) {
	is := api.Thread{Status: api.TRuns, Kind: api.KSend, Val: 7}
	for _, c := range []struct {
		name                 string
		s                    api.State
		id, kind, val, until int
		want                 api.Thread
		err                  api.Errno
	}{
		{"sends", lone(), 0, api.KSend, 7, 0, is, api.OK},
		{"sends, the last thread", lone(), 2, api.KSend, 7, 0, is, api.OK},
		{"sends, and a time is said", lone(), 2, api.KSend, 7, 9, is, api.OK},
		{"sends, and a wrong time is said", lone(), 2, api.KSend, 7, -9, is, api.OK},
		{"sends until a time", lone(), 1, api.KSendUntil, -7, 9, api.Thread{Status: 1, Kind: 3, Val: -7, Until: 9}, api.OK},
		{"until a time that was", lived(), 3, api.KRecvUntil, 7, 11, api.Thread{Status: 1, Kind: 6, Val: 7, Until: 11}, api.OK},
		{"until 0", lived(), 3, api.KRecvUntil, 7, 0, api.Thread{Status: 1, Kind: 6, Val: 7}, api.OK},
		{"until the last time", lived(), 3, api.KSendUntil, 7, last, api.Thread{Status: 1, Kind: 3, Val: 7, Until: last}, api.OK},
		{"receives, thread 0 alone", lone(), 0, api.KRecv, 7, 0, api.Thread{Status: 1, Kind: 4, Val: 7}, api.OK},
		{"tries to receive, another one", lived(), 3, api.KTryRecv, 7, 0, api.Thread{Status: 1, Kind: 5, Val: 7}, api.OK},
		{"tries to send the least", lived(), 3, api.KTrySend, least, 0, api.Thread{Status: 1, Kind: 2, Val: least}, api.OK},
		{"drains", lone(), 1, api.KDrain, most, 0, api.Thread{Status: 1, Kind: 7, Val: most}, api.OK},
		{"halts", lone(), 2, api.KHalt, 7, 0, api.Thread{Status: 1, Kind: 8, Val: 7}, api.OK},
		{"did something before", lived(), 3, api.KSend, 7, 0, is, api.OK},

		{"none that is a thread", lone(), 3, api.KSend, 7, 0, api.Thread{}, api.ErrThread},
		{"below 0", lone(), -1, api.KSend, 7, 0, api.Thread{}, api.ErrThread},
		{"far above", lone(), most, api.KSend, 7, 0, api.Thread{}, api.ErrThread},
		{"far below", lone(), least, api.KSend, 7, 0, api.Thread{}, api.ErrThread},
		{"none that is a thread, and no kind", lone(), 3, api.KEvict, 7, 0, api.Thread{}, api.ErrThread},
		{"no kind", lone(), 2, 0, 7, 0, api.Thread{}, api.ErrCall},
		{"an evict", lone(), 2, api.KEvict, 7, 0, api.Thread{}, api.ErrCall},
		{"a pick, and a wrong time", lone(), 2, api.KPick, 7, -1, api.Thread{}, api.ErrCall},
		{"no kind, of one that is busy", lived(), 2, api.KTick, 7, 0, lived().Threads[2], api.ErrCall},
		{"receives, another one than thread 0", lone(), 1, api.KRecv, 7, 0, api.Thread{}, api.ErrThread},
		{"receives until a wrong time, another one", lone(), 2, api.KRecvUntil, 7, -1, api.Thread{}, api.ErrThread},
		{"receives, another one, that is busy", with(lone(), func(s *api.State) { s.Threads[1] = is }), 1, api.KTryRecv, 7, 0, is, api.ErrThread},
		{"one that runs", lived(), 2, api.KSend, 7, 0, lived().Threads[2], api.ErrBusy},
		{"one that is parked", lived(), 0, api.KRecvUntil, 7, 0, lived().Threads[0], api.ErrBusy},
		{"one that runs, and a wrong time", lived(), 2, api.KSendUntil, 7, -1, lived().Threads[2], api.ErrBusy},
		{"until below 0", lone(), 0, api.KRecvUntil, 7, -1, api.Thread{}, api.ErrTime},
		{"until past the last time", lived(), 3, api.KSendUntil, 7, last + 1, lived().Threads[3], api.ErrTime},
		{"until far past it", lived(), 3, api.KSendUntil, 7, most, lived().Threads[3], api.ErrTime},
	} {
		x, err := fabric.Invoke(c.s, c.id, c.kind, c.val, c.until)
		want := with(c.s, func(s *api.State) {
			if 0 <= c.id && c.id < len(s.Threads) {
				s.Threads[c.id] = c.want
			}
		})
		if err != c.err || !same(x, want) {
			t.Errorf("%s: %+v, %d, not %+v, %d", c.name, x, err, want, c.err)
		}
	}
}

// invoke is what the chapters say of who begins.
func invoke(s api.State, id, kind, val, until int) (api.State, api.Errno) {
	switch {
	case !may(s):
		return s, api.ErrConfig
	case id < 0 || id >= s.Config.Threads:
		return s, api.ErrThread
	case !eight(kind):
		return s, api.ErrCall
	case s.Config.Single && in(kind, 4, 6) && id != 0:
		return s, api.ErrThread
	case s.Threads[id].Status != 0:
		return s, api.ErrBusy
	case timed(kind) && (until < 0 || until > last):
		return s, api.ErrTime
	}
	return with(s, func(s *api.State) {
		s.Threads[id] = api.Thread{Status: 1, Kind: kind, Val: val}
		if timed(kind) {
			s.Threads[id].Until = until
		}
	}), api.OK
}

// P13.3: of states of all sorts, as the words of the chapters say it.
func TestInvokeAsTheWordsSay(t *testing.T) {
	for n, s := range sorts() {
		for _, id := range ids {
			for _, kind := range kinds {
				until := []int{least, -1, 0, 1, last, last + 1, most}[(n+kind&7)%7]
				x, err := fabric.Invoke(s, id, kind, 7, until)
				if y, e := invoke(s, id, kind, 7, until); err != e || !same(x, y) {
					t.Fatalf("Invoke(%+v, %d, %d, 7, %d) = %+v, %d, not %+v, %d", s, id, kind, until, x, err, y, e)
				}
			}
		}
	}
}

// P13.4: what is told.
func TestTell(t *testing.T) {
	for _, c := range []struct {
		name                  string
		id, kind, result, got int
		want                  api.Entry
	}{
		{"who sent is in", 0, api.KSendUntil, api.ROK, 0, api.Entry{Thread: 0, Kind: 3, Val: 100, Result: 1}},
		{"who received has it", 1, api.KRecv, api.ROK, 60, api.Entry{Thread: 1, Kind: 4, Val: 101, Result: 1, Got: 60}},
		{"who sends lets the oldest go", 2, api.KEvict, api.ROK, 60, api.Entry{Thread: 2, Kind: 9, Val: 102, Result: 1, Got: 60}},
		{"who does nothing", 3, api.KTryRecv, api.REmpty, -3, api.Entry{Thread: 3, Kind: 5, Val: 103, Result: 4, Got: -3}},
		{"another kind than its own", 2, api.KHalt, api.RHalted, 1, api.Entry{Thread: 2, Kind: 8, Val: 102, Result: 7, Got: 1}},
		{"no kind", 2, 0, api.RTimeout, 1, api.Entry{Thread: 2, Val: 102, Result: 5, Got: 1}},
		{"a kind beside an evict", 2, api.KPick, api.RClosed, 1, api.Entry{Thread: 2, Kind: 10, Val: 102, Result: 6, Got: 1}},
		{"a kind that goes round to an evict", 2, 1<<32 + 9, api.RClosed, 1, api.Entry{Thread: 2, Kind: 1<<32 + 9, Val: 102, Result: 6, Got: 1}},
		{"no result", 1, api.KRecv, api.RNone, 0, api.Entry{Thread: 1, Kind: 4, Val: 101}},
		{"no result that may be", 1, api.KRecv, 8, most, api.Entry{Thread: 1, Kind: 4, Val: 101, Result: 8, Got: most}},
		{"an evict, with no result that may be", 1, api.KEvict, -1, least, api.Entry{Thread: 1, Kind: 9, Val: 101, Result: -1, Got: least}},
	} {
		x := fabric.Tell(lived(), c.id, c.kind, c.result, c.got)
		want := with(lived(), func(s *api.State) {
			s.Log = append(s.Log, c.want)
			if c.kind != api.KEvict {
				s.Threads[c.id].Result, s.Threads[c.id].Got = c.result, c.got
			}
		})
		if !same(x, want) {
			t.Errorf("%s: %+v, not %+v", c.name, x, want)
		}
	}
	for _, id := range []int{-1, 4, 5, 15, 16, 1 << 32, least, most} {
		if x := fabric.Tell(lived(), id, api.KSend, api.ROK, 1); !same(x, lived()) {
			t.Errorf("of %d: %+v", id, x)
		}
	}
}

// P13.4: what is told stands behind all that was told, in order.
func TestTellInOrder(t *testing.T) {
	s, want := lone(), []api.Entry{}
	for n := range 300 {
		id, kind := n%3, 1+n%9
		s = fabric.Tell(s, id, kind, n%8, n)
		want = append(want, api.Entry{Thread: id, Kind: kind, Result: n % 8, Got: n})
		if !slices.Equal(s.Log, want) || !fabric.Check(s) {
			t.Fatalf("after %d: %+v", n, s)
		}
	}
	// 299, 298 and 297 were told last; 296, of thread 2, was an evict, and so is each ninth one.
	for id, n := range map[int]int{0: 297, 1: 298, 2: 299} {
		if x := s.Threads[id]; x.Result != n%8 || x.Got != n {
			t.Errorf("thread %d: %+v", id, x)
		}
	}
}

// P13.4: who is woken, and who stays.
func TestWake(t *testing.T) {
	for _, c := range []struct {
		name   string
		s      api.State
		id     int
		status int
	}{
		{"one that is parked", lived(), 0, api.TRuns},
		{"another one", lived(), 1, api.TRuns},
		{"one that runs", lived(), 2, api.TRuns},
		{"one that is idle", lived(), 3, api.TIdle},
		{"one at all bounds", ended(), 0, api.TRuns},
		{"one that did nothing yet", lone(), 2, api.TIdle},
	} {
		want := with(c.s, func(s *api.State) { s.Threads[c.id].Status = c.status })
		if x := fabric.Wake(c.s, c.id); !same(x, want) {
			t.Errorf("%s: %+v, not %+v", c.name, x, want)
		}
	}
	for _, id := range []int{-1, 4, 5, 15, 16, 1 << 32, least, most} {
		if x := fabric.Wake(lived(), id); !same(x, lived()) {
			t.Errorf("of %d: %+v", id, x)
		}
	}
}

// P13.4: of states of all sorts, as the words of the chapter say it.
func TestTellWakeAsTheWordsSay(t *testing.T) {
	for n, s := range sorts() {
		for _, id := range ids {
			is := may(s) && 0 <= id && id < len(s.Threads)
			for _, kind := range []int{-1, 0, api.KSend, api.KHalt, api.KEvict, api.KPick} {
				result := n%10 - 1
				want := with(s, func(s *api.State) {
					if !is {
						return
					}
					s.Log = append(s.Log, api.Entry{Thread: id, Kind: kind, Val: s.Threads[id].Val, Result: result, Got: n})
					if kind != 9 {
						s.Threads[id].Result, s.Threads[id].Got = result, n
					}
				})
				if x := fabric.Tell(s, id, kind, result, n); !same(x, want) {
					t.Fatalf("Tell(%+v, %d, %d, %d, %d) = %+v, not %+v", s, id, kind, result, n, x, want)
				}
			}
			want := with(s, func(s *api.State) {
				if is && s.Threads[id].Status == 2 {
					s.Threads[id].Status = 1
				}
			})
			if x := fabric.Wake(s, id); !same(x, want) {
				t.Fatalf("Wake(%+v, %d) = %+v, not %+v", s, id, x, want)
			}
		}
	}
}

// P13.5: what may be stays so, whatever is done to it, if what is told may be a result.
func TestStays(t *testing.T) {
	stay := func(from, x api.State) {
		t.Helper()
		if !fabric.Check(x) {
			t.Fatalf("%+v, of %+v, may not be", x, from)
		}
	}
	for n, s := range good() {
		for _, id := range ids {
			for _, kind := range kinds {
				x, _ := fabric.Invoke(s, id, kind, least, []int{-1, 0, last, last + 1}[n%4])
				stay(s, x)
				stay(s, fabric.Tell(x, id, kind, (n+kind&7)%8, most))
			}
			stay(s, fabric.Wake(s, id))
		}
	}
	// One that is told what may be no result may not be any more, unless that was an evict.
	for _, result := range []int{-1, 8, least, most} {
		if fabric.Check(fabric.Tell(lived(), 0, api.KSend, result, 0)) || !fabric.Check(fabric.Tell(lived(), 0, api.KEvict, result, 0)) {
			t.Errorf("result %d", result)
		}
	}
}

// P13.3, P13.4, P13.5: threads begin, tell, and are woken, one after the other, and the others stay.
func TestOneAfterTheOther(t *testing.T) {
	s, err := fabric.New(api.Config{Log: 2, Threads: 5, Wait: api.Parking})
	if err != api.OK {
		t.Fatal(err)
	}
	want := make([]api.Thread, 5)
	for n := range 5 {
		if s, err = fabric.Invoke(s, n, api.KRecvUntil, n, 10+n); err != api.OK {
			t.Fatal(err)
		}
		want[n] = api.Thread{Status: 1, Kind: 6, Val: n, Until: 10 + n}
		if !slices.Equal(s.Threads, want) {
			t.Fatalf("%d began: %+v", n, s.Threads)
		}
	}
	for n := range 5 {
		s.Threads[n].Status, want[n].Status = api.TParked, api.TParked
	}
	for _, n := range []int{3, 0, 4, 1, 2} {
		s, want[n].Status = fabric.Wake(s, n), api.TRuns
		if !slices.Equal(s.Threads, want) {
			t.Fatalf("%d was woken: %+v", n, s.Threads)
		}
		s, want[n].Result, want[n].Got = fabric.Tell(s, n, api.KRecvUntil, api.ROK, 90+n), api.ROK, 90+n
		if !slices.Equal(s.Threads, want) {
			t.Fatalf("%d told: %+v", n, s.Threads)
		}
	}
	if len(s.Log) != 5 || s.Log[0] != (api.Entry{Thread: 3, Kind: 6, Val: 3, Result: 1, Got: 93}) || s.Log[4] != (api.Entry{Thread: 2, Kind: 6, Val: 2, Result: 1, Got: 92}) {
		t.Errorf("%+v", s.Log)
	}
}

// R1: lists far longer than may be, and such as are not there.
func TestLong(t *testing.T) {
	long := make([]int, 1_000_000)
	for name, by := range map[string]func(s *api.State){
		"slots":   func(s *api.State) { s.Slots = make([]api.Slot, 1_000_000) },
		"threads": func(s *api.State) { s.Threads = make([]api.Thread, 1_000_000) },
		"sends":   func(s *api.State) { s.Sends = long },
		"recvs":   func(s *api.State) { s.Recvs = long },
		"full":    func(s *api.State) { s.Full.Line = long },
		"empty":   func(s *api.State) { s.Empty.Line = long },
	} {
		s := with(lived(), by)
		if x, err := fabric.Invoke(s, 3, api.KSend, 1, 0); fabric.Check(s) || err != api.ErrConfig || !same(x, s) || len(fabric.Queue(s).Vals) != 0 {
			t.Errorf("%s: %d", name, err)
		}
	}
	s := lived()
	s.Log = make([]api.Entry, 1_000_000)
	if x := fabric.Tell(s, 0, api.KSend, api.ROK, 1); len(x.Log) != 1_000_001 || !fabric.Check(x) {
		t.Errorf("a long log: %d", len(x.Log))
	}
}

// spare is a list with room behind it, in which something stands.
func spare[T any](l []T, behind T) []T {
	m := slices.Grow(slices.Clone(l), 4)
	for n := range m[:cap(m)][len(m):] {
		m[:cap(m)][len(m)+n] = behind
	}
	return m
}

// roomy is a state in which all lists have room behind them.
func roomy(s api.State) api.State {
	s.Slots = spare(s.Slots, api.Slot{Stamp: -77})
	s.Threads, s.Log = spare(s.Threads, api.Thread{Val: -77}), spare(s.Log, api.Entry{Val: -77})
	s.Sends, s.Recvs = spare(s.Sends, -77), spare(s.Recvs, -77)
	s.Full.Line, s.Empty.Line = spare(s.Full.Line, -77), spare(s.Empty.Line, -77)
	return s
}

// whole is a state with all that stands in the room behind its lists.
func whole(s api.State) api.State {
	s.Slots, s.Threads, s.Log = s.Slots[:cap(s.Slots)], s.Threads[:cap(s.Threads)], s.Log[:cap(s.Log)]
	s.Sends, s.Recvs = s.Sends[:cap(s.Sends)], s.Recvs[:cap(s.Recvs)]
	s.Full.Line, s.Empty.Line = s.Full.Line[:cap(s.Full.Line)], s.Empty.Line[:cap(s.Empty.Line)]
	return s
}

// fill writes one thing all over a list.
func fill[T any](l []T, x T) {
	for n := range l {
		l[n] = x
	}
}

// spoil writes all over what a state has, and over the room behind it.
func spoil(s api.State) {
	s = whole(s)
	fill(s.Slots, api.Slot{Stamp: -99, Val: -99})
	fill(s.Threads, api.Thread{Val: -99})
	fill(s.Log, api.Entry{Val: -99})
	for _, l := range [][]int{s.Sends, s.Recvs, s.Full.Line, s.Empty.Line} {
		fill(l, -99)
	}
}

// answers has all states that are answered of one.
func answers(s api.State) map[string]api.State {
	l := map[string]api.State{}
	for _, id := range []int{-1, 0, 1, 2, 3, 4} {
		name := string(rune('a' + id + 1))
		l["Wake "+name] = fabric.Wake(s, id)
		l["Tell "+name] = fabric.Tell(s, id, api.KSend, api.ROK, 5)
		l["Tell, an evict, "+name] = fabric.Tell(s, id, api.KEvict, api.ROK, 5)
		for _, kind := range []int{api.KSend, api.KRecvUntil, api.KEvict} {
			l["Invoke "+name+string(rune('0'+kind))], _ = fabric.Invoke(s, id, kind, 5, 13)
			l["Invoke, a wrong time, "+name+string(rune('0'+kind))], _ = fabric.Invoke(s, id, kind, 5, -1)
		}
	}
	return l
}

// R3: what is handed in is neither changed nor kept, its spare room included.
func TestHandedIn(t *testing.T) {
	wrong := with(lived(), func(s *api.State) { s.Now = -1 })
	for name, from := range map[string]api.State{"lived": lived(), "lone": lone(), "ended": ended(), "great": great(), "wrong": wrong} {
		s := roomy(from)
		was := apart(whole(s))
		q := fabric.Queue(s)
		vals := slices.Clone(q.Vals)
		for what, x := range answers(s) {
			if !same(whole(s), was) {
				t.Fatalf("%s, %s: what was handed in is %+v", name, what, s)
			}
			is := apart(x)
			spoil(x)
			if !same(whole(s), was) {
				t.Fatalf("%s, %s: the answer shares memory with what was handed in", name, what)
			}
			r := roomy(from)
			y := answers(r)[what]
			spoil(r)
			if !same(y, is) {
				t.Fatalf("%s, %s: what was handed in is kept: %+v, not %+v", name, what, y, is)
			}
		}
		fill(q.Vals[:cap(q.Vals)], -99)
		if !same(whole(s), was) {
			t.Errorf("%s: the queue shares memory with what was handed in", name)
		}
		q = fabric.Queue(s)
		spoil(s)
		if !slices.Equal(q.Vals, vals) {
			t.Errorf("%s: the queue keeps what was handed in: %v", name, q.Vals)
		}
	}
}

// R3: no two lists of one answer share memory, though those handed in do.
func TestShareNothing(t *testing.T) {
	one := []int{3, 2, 1, 0}
	for name, by := range map[string]func(s *api.State){
		"one line":                     func(s *api.State) { s.Sends, s.Recvs, s.Full.Line, s.Empty.Line = one, one, one, one },
		"each behind the other":        func(s *api.State) { s.Sends, s.Recvs, s.Full.Line, s.Empty.Line = one[:1], one[1:2], one[2:3], one[3:] },
		"one line, and it may not be":  func(s *api.State) { s.Sends, s.Recvs, s.Full.Line, s.Empty.Line, s.Now = one, one, one, one, -1 },
		"empty ones, ahead of a line":  func(s *api.State) { s.Sends, s.Recvs, s.Full.Line, s.Empty.Line = one[:0], one[:0], one[:0], one },
		"one line of two, and nothing": func(s *api.State) { s.Sends, s.Recvs, s.Full.Line, s.Empty.Line = one[:2], one[:2], nil, one[1:] },
	} {
		s := with(lived(), by)
		for what, x := range answers(s) {
			for n, l := range [][]int{x.Sends, x.Recvs, x.Full.Line, x.Empty.Line} {
				was := apart(x)
				fill(l[:cap(l)], -99)
				for m, others := range [][2][]int{{was.Sends, x.Sends}, {was.Recvs, x.Recvs}, {was.Full.Line, x.Full.Line}, {was.Empty.Line, x.Empty.Line}} {
					if n != m && !slices.Equal(others[0], others[1]) {
						t.Fatalf("%s, %s: lists %d and %d share memory", name, what, n, m)
					}
				}
			}
		}
		if !slices.Equal(one, []int{3, 2, 1, 0}) {
			t.Fatalf("%s: %v", name, one)
		}
	}
	a, _ := fabric.New(lone().Config)
	b, _ := fabric.New(lone().Config)
	spoil(a)
	if !same(b, lone()) {
		t.Errorf("two new ones share memory: %+v", b)
	}
}

// R4: the same is answered of the same, in whatever order it is asked, whatever room is behind, and however goroutines run.
func TestSameAnswers(t *testing.T) {
	type told struct {
		check bool
		queue api.Queue
		val   int
		all   map[string]api.State
	}
	tell := func(s api.State) told {
		return told{fabric.Check(s), fabric.Queue(s), fabric.Value(s, 7), answers(s)}
	}
	l := []api.State{{}, lived(), lone(), ended(), great(), with(lived(), func(s *api.State) { s.Sends = []int{4} })}
	asked := []told{}
	for _, s := range l {
		asked = append(asked, tell(s))
	}
	var group sync.WaitGroup
	for n := range 8 {
		group.Go(func() {
			for m, s := range l {
				if n%2 == 1 {
					s = roomy(s)
				}
				is := tell(s)
				if is.check != asked[m].check || is.val != asked[m].val || !alike(is.queue, asked[m].queue) {
					t.Errorf("%+v: %+v, and %+v", s, is, asked[m])
				}
				for what, x := range asked[m].all {
					if !same(x, is.all[what]) {
						t.Errorf("%s: %+v, and %+v", what, x, is.all[what])
					}
				}
			}
		})
	}
	group.Wait()
}
