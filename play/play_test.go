package play_test

import (
	"runtime"
	"slices"
	"sync"
	"testing"
	"time"

	"sakia/api"
	"sakia/call"
	"sakia/fabric"
	"sakia/play"
)

const (
	most  = 1<<63 - 1
	least = -1 << 63
	last  = 1 << 40
)

// lived is a fabric of room 4, three of it taken, in which all lists have something; 1 and 4 run, 0, 2 and 3 are parked, 5 and 6 are idle.
func lived() api.State {
	return api.State{
		Config: api.Config{Log: 2, Threads: 7, Wait: api.Phased, Spin: 2, Yield: 1},
		Word:   api.Word{Head: 6, Tail: 9},
		Slots:  []api.Slot{{Stamp: 8, Val: 80}, {Stamp: 9, Val: 90}, {Stamp: 6, Val: 60}, {Stamp: 7, Val: 70}},
		Sends:  []int{3, 1}, Recvs: []int{4, 0},
		Full: api.Event{Epoch: 5, Line: []int{3, 2}}, Empty: api.Event{Epoch: 3, Line: []int{2, 0}},
		Now: 12,
		Threads: []api.Thread{
			{Status: api.TParked, Kind: api.KRecvUntil, Val: 100, Until: 20, Pc: 2, Reg: 5, Seen: 3, Result: api.ROK, Got: 7},
			{Status: api.TRuns, Kind: api.KSendUntil, Val: 101, Until: 15, Pc: 1, Tries: 4},
			{Status: api.TParked, Kind: api.KRecv, Val: 102, Pc: 2, Seen: 3},
			{Status: api.TParked, Kind: api.KSendUntil, Val: 103, Until: 15, Pc: 2, Seen: 5},
			{Status: api.TRuns, Kind: api.KRecvUntil, Val: 104, Until: 13, Pc: 2},
			{Kind: api.KSendUntil, Val: 105, Until: 14, Result: api.ROK},
			{},
		},
		Log: []api.Entry{{Thread: 3, Kind: api.KTrySend, Val: 103, Result: api.ROK, Got: 50}},
	}
}

// ended is a fabric at its upper bounds; 2 runs, 1 is parked, 0 is idle.
func ended() api.State {
	return api.State{
		Config: api.Config{Log: 1, Threads: 3, Policy: api.DropOld, Wait: api.Yielding, Single: true},
		Word:   api.Word{Head: last - 2, Tail: last, Mode: api.Draining},
		Slots:  []api.Slot{{Stamp: last - 2, Val: most}, {Stamp: last - 1, Val: least}},
		Full:   api.Event{Epoch: last, Line: []int{1}},
		Empty:  api.Event{Epoch: last, Line: []int{0, 1}},
		Now:    last,
		Threads: []api.Thread{
			{Kind: api.KRecvUntil, Until: last, Result: api.RTimeout, Got: most},
			{Status: api.TParked, Kind: api.KSendUntil, Val: most, Until: last - 2, Pc: 11, Reg: last, Seen: last, Tries: last, Result: api.RHalted, Got: most},
			{Status: api.TRuns, Kind: api.KHalt, Val: least, Pc: 2, Reg: last - 2},
		},
		Log: []api.Entry{{Thread: -1, Kind: least, Val: most, Result: 99, Got: most}},
	}
}

// laid is a new fabric of that configuration.
func laid(c api.Config) api.State {
	s, _ := fabric.New(c)
	return s
}

// apart is a state that shares no memory with another one.
func apart(s api.State) api.State {
	s.Slots, s.Threads, s.Log = slices.Clone(s.Slots), slices.Clone(s.Threads), slices.Clone(s.Log)
	s.Sends, s.Recvs = slices.Clone(s.Sends), slices.Clone(s.Recvs)
	s.Full.Line, s.Empty.Line = slices.Clone(s.Full.Line), slices.Clone(s.Empty.Line)
	return s
}

// with is a state that is changed.
func with(s api.State, by ...func(s *api.State)) api.State {
	s = apart(s)
	for _, f := range by {
		f(&s)
	}
	return s
}

// same tells whether two states have the same in them.
func same(a, b api.State) bool {
	alike := func(a, b api.Event) bool { return a.Epoch == b.Epoch && slices.Equal(a.Line, b.Line) }
	return a.Config == b.Config && a.Word == b.Word && a.Now == b.Now &&
		slices.Equal(a.Slots, b.Slots) && slices.Equal(a.Threads, b.Threads) && slices.Equal(a.Log, b.Log) &&
		slices.Equal(a.Sends, b.Sends) && slices.Equal(a.Recvs, b.Recvs) && alike(a.Full, b.Full) && alike(a.Empty, b.Empty)
}

// looked is what the chapter says of a state.
func looked(s api.State) api.Note {
	if !fabric.Check(s) {
		return api.Note{Err: 20}
	}
	n := api.Note{Told: len(s.Log), Len: s.Word.Tail - s.Word.Head, Mode: s.Word.Mode}
	for _, t := range s.Threads {
		if t.Status == 1 {
			n.Running++
		}
	}
	return n
}

// played is what the chapter says of raw calls: the notes, all states from the new one on, and the error.
func played(c api.Config, raw [][]int) ([]api.Note, []api.State, api.Errno) {
	s, err := fabric.New(c)
	if err != api.OK {
		return nil, []api.State{{}}, err
	}
	notes, states := []api.Note{}, []api.State{s}
	for _, l := range raw {
		x, err := call.Decode(l)
		if err == api.OK {
			s, err = call.Do(s, x)
		}
		n := looked(s)
		n.Err = err
		notes, states = append(notes, n), append(states, s)
	}
	return notes, states, api.OK
}

// changes are made to a state of at least three threads; some make one of it that may not be.
func changes() []func(s *api.State) {
	l := []func(s *api.State){
		func(s *api.State) {},
		func(s *api.State) { s.Word.Head = s.Word.Tail },
		func(s *api.State) { s.Word.Head = s.Word.Tail - 1 },
		func(s *api.State) { s.Word.Tail = s.Word.Head + len(s.Slots) },
		func(s *api.State) { s.Word.Tail = s.Word.Head + len(s.Slots) + 1 },
		func(s *api.State) { s.Word.Head = s.Word.Tail + 1 },
		func(s *api.State) { s.Word.Head, s.Word.Tail = least, most },
		func(s *api.State) { s.Word.Mode = api.Open },
		func(s *api.State) { s.Word.Mode = api.Draining },
		func(s *api.State) { s.Word.Mode = api.Halted },
		func(s *api.State) { s.Word.Mode = 3 },
		func(s *api.State) { s.Word.Mode = -1 },
		func(s *api.State) { s.Log = nil },
		func(s *api.State) { s.Log = make([]api.Entry, 1000) },
		func(s *api.State) { s.Now = -1 },
		func(s *api.State) { s.Now = last + 1 },
		func(s *api.State) { s.Slots = s.Slots[min(1, len(s.Slots)):] },
		func(s *api.State) { s.Slots = nil },
		func(s *api.State) { s.Threads = nil },
		func(s *api.State) { s.Threads = append(s.Threads, api.Thread{Status: api.TRuns, Kind: api.KSend}) },
		func(s *api.State) { s.Sends = []int{1, 1} },
		func(s *api.State) { s.Recvs = []int{16} },
		func(s *api.State) { s.Full.Epoch = -1 },
		func(s *api.State) { s.Empty.Line = []int{-1} },
		func(s *api.State) { s.Config.Log = 7 },
		func(s *api.State) { s.Config.Wait = 4 },
		func(s *api.State) { *s = api.State{} },
	}
	for id := range 3 {
		of := func(x api.Thread) {
			l = append(l, func(s *api.State) {
				if id < len(s.Threads) {
					s.Threads[id] = x
				}
			})
		}
		of(api.Thread{})
		of(api.Thread{Status: api.TRuns, Kind: api.KHalt})
		of(api.Thread{Status: api.TParked, Kind: api.KSend})
		of(api.Thread{Status: 3, Kind: api.KSend})
		of(api.Thread{Status: api.TRuns})
		of(api.Thread{Status: api.TRuns, Kind: api.KEvict})
	}
	return l
}

// P20.1: what is told of a state.
func TestLook(t *testing.T) {
	runs := api.Thread{Status: api.TRuns, Kind: api.KSend}
	all := func(s *api.State) {
		for id := range s.Threads {
			s.Threads[id] = runs
		}
	}
	none := func(s *api.State) { clear(s.Threads) }
	wrong := api.Note{Err: api.ErrConfig}
	for _, c := range []struct {
		name string
		s    api.State
		want api.Note
	}{
		{"new", laid(api.Config{Log: 1, Threads: 1}), api.Note{}},
		{"new, of all there may be", laid(api.Config{Log: 6, Threads: 16, Wait: api.Parking}), api.Note{}},
		{"some run", lived(), api.Note{Told: 1, Len: 3, Running: 2}},
		{"at its end", ended(), api.Note{Told: 1, Len: 2, Mode: api.Draining, Running: 1}},
		{"halted", with(lived(), func(s *api.State) { s.Word.Mode = api.Halted }), api.Note{Told: 1, Len: 3, Mode: api.Halted, Running: 2}},
		{"empty", with(lived(), func(s *api.State) { s.Word.Head = 9 }), api.Note{Told: 1, Running: 2}},
		{"full", with(lived(), func(s *api.State) { s.Word.Tail = 10 }), api.Note{Told: 1, Len: 4, Running: 2}},
		{"nothing was told", with(lived(), func(s *api.State) { s.Log = nil }), api.Note{Len: 3, Running: 2}},
		{"much was told", with(lived(), func(s *api.State) { s.Log = make([]api.Entry, 1_000_000) }), api.Note{Told: 1_000_000, Len: 3, Running: 2}},
		{"all run", with(lived(), all), api.Note{Told: 1, Len: 3, Running: 7}},
		{"all there may be run", with(laid(api.Config{Log: 6, Threads: 16}), all), api.Note{Running: 16}},
		{"nobody runs", with(lived(), none), api.Note{Told: 1, Len: 3}},
		{"the first one runs", with(lived(), none, func(s *api.State) { s.Threads[0] = runs }), api.Note{Told: 1, Len: 3, Running: 1}},
		{"the last one runs", with(lived(), none, func(s *api.State) { s.Threads[6] = runs }), api.Note{Told: 1, Len: 3, Running: 1}},
		{"nothing", api.State{}, wrong},
		{"no time", with(lived(), func(s *api.State) { s.Now = -1 }), wrong},
		{"no mode", with(lived(), func(s *api.State) { s.Word.Mode = 3 }), wrong},
		{"more than full", with(lived(), func(s *api.State) { s.Word.Tail = 11 }), wrong},
		{"less than empty", with(lived(), func(s *api.State) { s.Word.Head = 10 }), wrong},
		{"a thread less", with(lived(), func(s *api.State) { s.Threads = s.Threads[1:] }), wrong},
		{"a thread that may not be", with(lived(), func(s *api.State) { s.Threads[6].Pc = 1 }), wrong},
		{"far too many threads", with(lived(), func(s *api.State) { s.Threads = make([]api.Thread, 1_000_000) }), wrong},
		{"no configuration", with(lived(), func(s *api.State) { s.Config = api.Config{} }), wrong},
	} {
		if n := play.Look(c.s); n != c.want {
			t.Errorf("%s: %+v, not %+v", c.name, n, c.want)
		}
	}
}

// P20.1: what is told of states of all sorts, as the words of the chapter say it.
func TestLookAsTheWordsSay(t *testing.T) {
	told := map[api.Note]int{}
	for _, root := range []api.State{lived(), ended(), laid(api.Config{Log: 3, Threads: 4})} {
		for _, a := range changes() {
			for _, b := range changes() {
				s := with(root, a, b)
				n, want := play.Look(s), looked(s)
				if n != want {
					t.Fatalf("Look(%+v) = %+v, not %+v", s, n, want)
				}
				told[n]++
			}
		}
	}
	if told[api.Note{Err: api.ErrConfig}] < 1000 || len(told) < 30 {
		t.Errorf("told %v", told)
	}
}

// picks are so many raw picks of a thread.
func picks(id, many int) [][]int {
	return slices.Repeat([][]int{{10, id, 0, 0}}, many)
}

// calls are raw calls, one behind the other.
func calls(l ...[][]int) [][]int {
	return slices.Concat(l...)
}

// one is a single raw call.
func one(l ...int) [][]int {
	return [][]int{l}
}

// often is so many times one note.
func often(many int, n api.Note) []api.Note {
	return slices.Repeat([]api.Note{n}, many)
}

// P20.2: the notes of raw calls; the chapter's example, and the examples of the whole.
func TestPlay(t *testing.T) {
	type note = api.Note
	three := api.Config{Log: 1, Threads: 3, Wait: api.Parking}
	of := func(policy int) api.Config {
		c := three
		c.Policy = policy
		return c
	}
	filled := calls(one(1, 0, 5, 0), picks(0, 7), one(1, 0, 6, 0), picks(0, 7))
	filling := slices.Concat(
		often(5, note{Running: 1}), often(2, note{Told: 1, Len: 1, Running: 1}), often(1, note{Told: 1, Len: 1}),
		often(5, note{Told: 1, Len: 1, Running: 1}), often(2, note{Told: 2, Len: 2, Running: 1}), often(1, note{Told: 2, Len: 2}))
	for _, c := range []struct {
		name string
		c    api.Config
		raw  [][]int
		want []note
	}{
		{"nothing", three, nil, nil},
		{"no element", three, [][]int{}, nil},
		{"one of no kind", three, one(0, 0, 0, 0), often(1, note{Err: api.ErrCall})},
		{"one of no number", three, [][]int{nil}, often(1, note{Err: api.ErrCall})},
		{"an evict", three, one(9, 0, 0, 0), often(1, note{Err: api.ErrCall})},
		{"too few numbers, and too many", three, [][]int{{10, 0, 0}, {10, 0, 0, 0, 0}, {}}, often(3, note{Err: api.ErrCall})},
		{"no time", three, [][]int{{11, 0, -1, 0}, {6, 0, 0, -1}, {3, 0, 0, last + 1}}, often(3, note{Err: api.ErrTime})},
		{"all time", three, [][]int{{11, 0, last, 0}, {11, 0, 1, 0}, {6, 0, 0, 1}, {6, 0, 0, 0}}, []note{{}, {Err: api.ErrTime}, {Err: api.ErrTime}, {Running: 1}}},
		{"none of its threads", three, [][]int{{1, 3, 0, 0}, {10, 3, 0, 0}, {10, 15, 0, 0}, {10, 16, 0, 0}}, []note{{Err: api.ErrThread}, {Err: api.ErrThread}, {Err: api.ErrThread}, {Err: api.ErrCall}}},
		{"who does nothing", three, picks(2, 2), often(2, note{Err: api.ErrIdle})},
		{"who does something", three, [][]int{{1, 2, 0, 0}, {4, 2, 0, 0}, {4, 1, 0, 0}}, []note{{Running: 1}, {Err: api.ErrBusy, Running: 1}, {Running: 2}}},
		{"thread 0 alone receives", api.Config{Log: 1, Threads: 2, Single: true}, [][]int{{4, 1, 0, 0}, {4, 0, 0, 0}}, []note{{Err: api.ErrThread}, {Running: 1}}},
		{"1: one sends", three, filled, filling},
		{"2: one receives", three, calls(filled, one(4, 1, 0, 0), picks(1, 7)),
			slices.Concat(filling, often(4, note{Told: 2, Len: 2, Running: 1}), often(3, note{Told: 3, Len: 1, Running: 1}), often(1, note{Told: 3, Len: 1}))},
		{"3: one tries to send", three, calls(filled, one(2, 1, 8, 0), picks(1, 4)),
			slices.Concat(filling, often(3, note{Told: 2, Len: 2, Running: 1}), often(1, note{Told: 3, Len: 2, Running: 1}), often(1, note{Told: 3, Len: 2}))},
		{"4: the new one is dropped", of(api.DropNew), calls(filled, one(1, 1, 8, 0), picks(1, 4)),
			slices.Concat(filling, often(3, note{Told: 2, Len: 2, Running: 1}), often(1, note{Told: 3, Len: 2, Running: 1}), often(1, note{Told: 3, Len: 2}))},
		{"4: the oldest one goes", of(api.DropOld), calls(filled, one(1, 1, 8, 0), picks(1, 11)),
			slices.Concat(filling, often(4, note{Told: 2, Len: 2, Running: 1}), often(4, note{Told: 3, Len: 1, Running: 1}), often(2, note{Told: 4, Len: 2, Running: 1}), often(1, note{Told: 4, Len: 2}), often(1, note{Err: api.ErrIdle, Told: 4, Len: 2}))},
		{"5, 10: one parks, and is woken", three, calls(one(4, 2, 0, 0), picks(2, 7), one(1, 0, 7, 0), picks(0, 7)),
			slices.Concat(often(6, note{Running: 1}), []note{{}, {Err: api.ErrParked}}, often(5, note{Running: 1}), []note{{Told: 1, Len: 1, Running: 1}, {Told: 1, Len: 1, Running: 2}, {Told: 1, Len: 1, Running: 1}})},
		{"6: one is late", three, calls(one(11, 0, 3, 0), one(6, 0, 0, 5), picks(0, 6), one(11, 0, 4, 0), one(11, 0, 1, 0), picks(0, 2)),
			slices.Concat([]note{{}}, often(6, note{Running: 1}), []note{{}, {}, {Running: 1}, {Told: 1, Running: 1}, {Told: 1}})},
		{"8: one drains", three, calls(filled, one(7, 2, 0, 0), picks(2, 3), one(1, 1, 8, 0), picks(1, 4), one(4, 1, 0, 0), picks(1, 7)),
			slices.Concat(filling, []note{{Told: 2, Len: 2, Running: 1}}, often(2, note{Told: 3, Len: 2, Mode: 1, Running: 1}), often(1, note{Told: 3, Len: 2, Mode: 1}),
				often(3, note{Told: 3, Len: 2, Mode: 1, Running: 1}), often(1, note{Told: 4, Len: 2, Mode: 1, Running: 1}), often(1, note{Told: 4, Len: 2, Mode: 1}),
				often(4, note{Told: 4, Len: 2, Mode: 1, Running: 1}), often(3, note{Told: 5, Len: 1, Mode: 1, Running: 1}), often(1, note{Told: 5, Len: 1, Mode: 1}))},
		{"9: one halts", three, calls(one(4, 0, 0, 0), picks(0, 6), one(8, 2, 0, 0), picks(2, 3), picks(0, 2)),
			slices.Concat(often(6, note{Running: 1}), []note{{}, {Running: 1}}, often(2, note{Told: 1, Mode: 2, Running: 1}), []note{{Told: 1, Mode: 2, Running: 1}, {Told: 2, Mode: 2, Running: 1}, {Told: 2, Mode: 2}})},
	} {
		l, err := play.Play(c.c, c.raw)
		if err != api.OK || !slices.Equal(l, c.want) {
			t.Errorf("%s: %+v, %d, not %+v", c.name, l, err, c.want)
		}
	}
}

// P20.2: the state behind raw calls.
func TestLast(t *testing.T) {
	c := api.Config{Log: 1, Threads: 3, Wait: api.Parking}
	for _, v := range []struct {
		name string
		raw  [][]int
		then func(s *api.State)
	}{
		{"nothing", nil, func(s *api.State) {}},
		{"no element", [][]int{}, func(s *api.State) {}},
		{"all refused", [][]int{nil, {1}, {10, 0, 0, 0}, {9, 0, 0, 0}, {11, 0, -1, 0}, {4, 3, 0, 0}}, func(s *api.State) {}},
		{"time goes by", [][]int{{11, 0, 3, 0}, {11, 0, -1, 0}, {11, 0, 4, 0}}, func(s *api.State) { s.Now = 7 }},
		{"one begins", [][]int{{11, 0, 3, 0}, {3, 1, 7, 5}, {3, 1, 8, 5}}, func(s *api.State) {
			s.Now, s.Threads[1] = 3, api.Thread{Status: api.TRuns, Kind: api.KSendUntil, Val: 7, Until: 8}
		}},
		{"one sends", calls(one(1, 1, 7, 0), picks(1, 7)), func(s *api.State) {
			s.Word.Tail, s.Slots[0].Val = 1, 7
			s.Empty.Epoch, s.Threads[1] = 1, api.Thread{Kind: api.KSend, Val: 7, Result: api.ROK}
			s.Log = []api.Entry{{Thread: 1, Kind: api.KSend, Val: 7, Result: api.ROK}}
		}},
		{"one sends, those refused left out", calls(one(1, 1, 7, 0), picks(1, 3), picks(0, 2), one(1, 1, 8, 0), picks(1, 4), picks(1, 3), one()), func(s *api.State) {
			s.Word.Tail, s.Slots[0].Val = 1, 7
			s.Empty.Epoch, s.Threads[1] = 1, api.Thread{Kind: api.KSend, Val: 7, Result: api.ROK}
			s.Log = []api.Entry{{Thread: 1, Kind: api.KSend, Val: 7, Result: api.ROK}}
		}},
		{"two tell, in order", calls(one(5, 0, 0, 0), picks(0, 4), one(8, 2, 0, 0), picks(2, 1)), func(s *api.State) {
			s.Word.Mode = api.Halted
			s.Threads[0], s.Threads[2] = api.Thread{Kind: api.KTryRecv, Result: api.REmpty}, api.Thread{Status: api.TRuns, Kind: api.KHalt, Pc: 1, Result: api.ROK}
			s.Log = []api.Entry{{Thread: 0, Kind: api.KTryRecv, Result: api.REmpty}, {Thread: 2, Kind: api.KHalt, Result: api.ROK}}
		}},
	} {
		want := with(laid(c), v.then)
		if s, err := play.Last(c, v.raw); err != api.OK || !same(s, want) {
			t.Errorf("%s: %+v, %d, not %+v", v.name, s, err, want)
		}
	}
}

// configs goes through configurations of all sorts, at all bounds and beside them.
func configs(yield func(c api.Config) bool) {
	for _, log := range []int{least, -1, 0, 1, 6, 7, 1 << 32, most} {
		for _, threads := range []int{-1, 0, 1, 2, 16, 17, 1<<32 + 1} {
			for policy := -1; policy < 4; policy++ {
				for wait := -1; wait < 5; wait++ {
					for _, spin := range []int{-1, 0, 1, 8, 9} {
						if !yield(api.Config{Log: log, Threads: threads, Policy: policy, Wait: wait, Spin: spin, Single: spin > 0}) ||
							!yield(api.Config{Log: log, Threads: threads, Policy: policy, Wait: wait, Yield: spin}) {
							return
						}
					}
				}
			}
		}
	}
}

// P20.2, P20.3: of a configuration that may not be there is an error, and nothing else, whatever the raw calls.
func TestConfigs(t *testing.T) {
	raw := [][]int{{11, 0, 3, 0}, {1, 0, 7, 0}, {10, 0, 0, 0}, {10, 1, 0, 0}, {}}
	told := map[api.Errno]int{}
	for c := range configs {
		want, states, wrong := played(c, raw)
		told[wrong]++
		for many := range len(raw) + 1 {
			some := raw[:many]
			l, err := play.Play(c, some)
			if err != wrong || !slices.Equal(l, want[:min(many, len(want))]) {
				t.Fatalf("%+v: %+v, %d, not %+v, %d", c, l, err, want, wrong)
			}
			s, err := play.Last(c, some)
			if err != wrong || !same(s, states[min(many, len(want))]) {
				t.Fatalf("%+v: %+v, %d, not %+v, %d", c, s, err, states, wrong)
			}
			good := 1
			if wrong != api.OK {
				good = 0
			}
			if all, n := play.All([]api.Script{{Config: c, Raw: some}}); n != good || len(all) != 1 || !same(all[0], s) {
				t.Fatalf("%+v: all %+v, %d", c, all, n)
			}
		}
	}
	if len(told) != 2 || told[api.OK] < 50 || told[api.ErrConfig] < 1000 {
		t.Errorf("told %v", told)
	}
}

// proved holds what is answered of a script against the chapter's words, and tells the notes.
func proved(t *testing.T, c api.Config, raw [][]int) []api.Note {
	t.Helper()
	want, states, _ := played(c, raw)
	l, err := play.Play(c, raw)
	if err != api.OK || !slices.Equal(l, want) {
		t.Fatalf("%+v: Play(%v) = %+v, %d, not %+v", c, raw, l, err, want)
	}
	s, err := play.Last(c, raw)
	if err != api.OK || !same(s, states[len(raw)]) {
		t.Fatalf("%+v: Last(%v) = %+v, %d, not %+v", c, raw, s, err, states[len(raw)])
	}
	return l
}

// kept tells what is wrong with notes, each of which is of a state that the ones ahead of it led to: nothing, or what P20.4 has otherwise.
func kept(raw [][]int, l []api.Note) string {
	if len(l) != len(raw) {
		return "not a note for each raw call"
	}
	behind := api.Note{}
	for _, n := range l {
		is := n
		is.Err = api.OK
		if n.Err != api.OK && is != behind {
			return "what is refused changed something"
		}
		if n.Told < behind.Told || n.Told > behind.Told+1 {
			return "what was told is not left, or too much is told at once"
		}
		behind = is
	}
	return ""
}

// P20.2, P20.4: all short scripts, of fabrics of three sorts, as the words of the chapter say it.
func TestScriptsAsTheWordsSay(t *testing.T) {
	alphabet := [][]int{{2, 0, 7, 0}, {6, 1, 0, 2}, {8, 0, 0, 0}, {10, 0, 0, 0}, {10, 1, 0, 0}, {11, 0, 1, 0}, {9, 0, 0, 0}}
	for policy, ahead := range [][][]int{
		nil,
		// Thread 1 is about to park.
		calls(one(6, 1, 0, 1), picks(1, 5)),
		// It is full, and thread 0 is about to let the oldest one go.
		calls(one(1, 0, 5, 0), picks(0, 7), one(1, 0, 6, 0), picks(0, 7), one(1, 0, 7, 0), picks(0, 3)),
	} {
		c := api.Config{Log: 1, Threads: 2, Policy: policy, Wait: api.Parking}
		var on func(raw [][]int, deep int)
		on = func(raw [][]int, deep int) {
			if deep == 0 {
				if wrong := kept(raw, proved(t, c, raw)); wrong != "" {
					t.Fatalf("%+v: %v: %s", c, raw, wrong)
				}
				return
			}
			for _, l := range alphabet {
				on(append(raw, l), deep-1)
			}
		}
		on(slices.Clip(ahead), 5)
	}
}

// script is a script of so many raw calls that hangs on its seed alone; some of them are refused.
func script(c api.Config, seed uint32, many int) [][]int {
	next := func(below int) int {
		seed = seed*1664525 + 1013904223
		return int(seed>>8) % below
	}
	var raw [][]int
	for range many {
		id := next(c.Threads + 1)
		switch kind := next(60); kind {
		case 1, 2, 3:
			raw = append(raw, []int{kind, id, next(100), (kind / 3) * next(9)})
		case 4, 5, 6:
			raw = append(raw, []int{kind, id, 0, (kind / 6) * next(9)})
		case 7, 8:
			// Who closes ends it all, so there is little of that.
			if next(20) == 0 {
				raw = append(raw, []int{kind, id, 0, 0})
			}
		case 9:
			raw = append(raw, []int{11, 0, next(4) - 1, 0})
		case 10:
			raw = append(raw, []int{next(13), next(18) - 1, next(2), next(2)})
		case 11:
			raw = append(raw, make([]int, next(6)))
		default:
			raw = append(raw, []int{10, id, 0, 0})
		}
	}
	return raw
}

// several has configurations that may be, of all policies and ways to wait.
func several() []api.Config {
	var l []api.Config
	for c := range configs {
		if _, err := fabric.New(c); err == api.OK {
			l = append(l, c)
		}
	}
	return l
}

// P20.2, P20.4: long scripts, of fabrics of all sorts; what is refused might as well be left out, and what is ahead hangs on nothing behind it.
func TestLongScripts(t *testing.T) {
	told, most := map[api.Errno]int{}, 0
	for seed, c := range several() {
		raw := script(c, uint32(seed), 400)
		l := proved(t, c, raw)
		if wrong := kept(raw, l); wrong != "" {
			t.Fatalf("%+v: %v: %s", c, raw, wrong)
		}
		var good [][]int
		var notes []api.Note
		for n, x := range l {
			told[x.Err]++
			if x.Err == api.OK {
				good, notes = append(good, raw[n]), append(notes, x)
			}
		}
		most = max(most, l[len(l)-1].Told)
		if again, _ := play.Play(c, good); !slices.Equal(again, notes) {
			t.Fatalf("%+v: %v: those refused left out, %+v, not %+v", c, raw, again, notes)
		}
		all, _ := play.Last(c, raw)
		if s, _ := play.Last(c, good); !same(s, all) {
			t.Fatalf("%+v: %v: those refused left out, %+v, not %+v", c, raw, s, all)
		}
		for _, many := range []int{0, 1, 7, 100, len(raw) - 1} {
			if part, _ := play.Play(c, raw[:many]); !slices.Equal(part, l[:many]) {
				t.Fatalf("%+v: %v: the first %d: %+v, not %+v", c, raw, many, part, l[:many])
			}
			n := api.Note{}
			if many > 0 {
				n = l[many-1]
				n.Err = api.OK
			}
			if s, _ := play.Last(c, raw[:many]); play.Look(s) != n {
				t.Fatalf("%+v: %v: behind %d: %+v, not %+v", c, raw, many, play.Look(s), n)
			}
		}
	}
	for _, err := range []api.Errno{api.OK, api.ErrTime, api.ErrBusy, api.ErrIdle, api.ErrParked, api.ErrThread, api.ErrCall} {
		if told[err] < 50 {
			t.Errorf("error %d was told %d times only", err, told[err])
		}
	}
	if most < 20 {
		t.Errorf("%d were told at most", most)
	}
}

// scripts has so many scripts of all lengths; some have a configuration that may not be.
func scripts(many int) []api.Script {
	l := make([]api.Script, many)
	all := several()
	for n := range l {
		c := all[n*7%len(all)]
		l[n] = api.Script{Config: c, Raw: script(c, uint32(n), n*37%200)}
		if n%5 == 3 {
			l[n].Config.Log = 7
		}
	}
	return l
}

// P20.3: of each script the state behind it, in order, and how many had no error.
func TestAll(t *testing.T) {
	c := api.Config{Log: 1, Threads: 2}
	late := func(n int) api.Script { return api.Script{Config: c, Raw: [][]int{{11, 0, n, 0}}} }
	off := api.Script{Raw: [][]int{{11, 0, 3, 0}}}
	for _, v := range []struct {
		name string
		l    []api.Script
		now  []int
		want int
	}{
		{"none", nil, nil, 0},
		{"no element", []api.Script{}, nil, 0},
		{"one", []api.Script{late(3)}, []int{3}, 1},
		{"one of no raw call", []api.Script{{Config: c}}, []int{0}, 1},
		{"one that may not be", []api.Script{off}, []int{-1}, 0},
		{"one that is refused has no error", []api.Script{late(-1)}, []int{0}, 1},
		{"three", []api.Script{late(3), late(1), late(2)}, []int{3, 1, 2}, 3},
		{"one twice", []api.Script{late(3), late(3)}, []int{3, 3}, 2},
		{"the first one may not be", []api.Script{off, late(1), late(2)}, []int{-1, 1, 2}, 2},
		{"the one between may not be", []api.Script{late(1), off, late(2)}, []int{1, -1, 2}, 2},
		{"the last one may not be", []api.Script{late(1), late(2), off}, []int{1, 2, -1}, 2},
		{"none may be", []api.Script{off, {}, off}, []int{-1, -1, -1}, 0},
	} {
		l, n := play.All(v.l)
		if n != v.want || len(l) != len(v.now) {
			t.Fatalf("%s: %+v, %d, not %d", v.name, l, n, v.want)
		}
		for at, now := range v.now {
			want := api.State{}
			if now >= 0 {
				want = with(laid(c), func(s *api.State) { s.Now = now })
			}
			if !same(l[at], want) {
				t.Errorf("%s: %d is %+v, not %+v", v.name, at, l[at], want)
			}
		}
	}
}

// P20.3: scripts of all counts, around how many are played at once, too, as the words of the chapter say it.
func TestAllAsTheWordsSay(t *testing.T) {
	l := scripts(300)
	var states []api.State
	var good []int
	for _, x := range l {
		_, s, err := played(x.Config, x.Raw)
		states = append(states, s[len(s)-1])
		good = append(good, 0)
		if err == api.OK {
			good[len(good)-1] = 1
		}
	}
	for many := range len(l) + 1 {
		if many > 40 && many < len(l) {
			continue
		}
		want := 0
		for _, n := range good[:many] {
			want += n
		}
		all, n := play.All(l[:many])
		if n != want || !slices.EqualFunc(all, states[:many], same) {
			t.Fatalf("%d: %+v, %d, not %d", many, all, n, want)
		}
	}
	for from := range 20 {
		if all, _ := play.All(l[from : from+20]); !slices.EqualFunc(all, states[from:from+20], same) {
			t.Fatalf("from %d: %+v", from, all)
		}
	}
}

// P20.3: scripts of which the first ones take far longer than the others stand in order all the same.
func TestAllInOrder(t *testing.T) {
	c := api.Config{Log: 1, Threads: 2}
	l := make([]api.Script, 40)
	for n := range l {
		l[n] = api.Script{Config: c, Raw: slices.Repeat([][]int{{11, 0, 1, 0}}, (40-n)*(40-n))}
	}
	all, n := play.All(l)
	if n != 40 || len(all) != 40 {
		t.Fatalf("%d of %d", n, len(all))
	}
	for n, s := range all {
		if s.Now != (40-n)*(40-n) {
			t.Errorf("%d is behind %d ticks", n, s.Now)
		}
	}
}

// All that plays is done when All answers.
func TestNobodyPlaysOn(t *testing.T) {
	l := scripts(100)
	before := runtime.NumGoroutine()
	for range 20 {
		play.All(l)
	}
	// Who is done may need a moment to be gone.
	for n := 0; runtime.NumGoroutine() > before; n++ {
		if n == 1000 {
			t.Fatalf("%d play on", runtime.NumGoroutine()-before)
		}
		time.Sleep(time.Millisecond)
	}
}

// R1: raw calls of all numbers, and of all lengths.
func TestNumbers(t *testing.T) {
	c := api.Config{Log: 1, Threads: 2, Wait: api.Parking}
	numbers := []int{least, -last, -1, 0, 1, 2, 3, 6, 10, 11, 15, 16, last, last + 1, 1<<32 + 1, most}
	var raw [][]int
	for _, kind := range numbers {
		for _, id := range numbers {
			for _, val := range numbers {
				for _, until := range numbers {
					raw = append(raw, []int{kind, id, val, until})
				}
			}
		}
		raw = append(raw, slices.Repeat([]int{kind}, max(0, min(kind, 1000))))
	}
	if wrong := kept(raw, proved(t, c, raw)); wrong != "" {
		t.Error(wrong)
	}
	l, err := play.Play(c, [][]int{make([]int, 10_000_000), {1, 0, 7, 0}})
	if err != api.OK || !slices.Equal(l, []api.Note{{Err: api.ErrCall}, {Running: 1}}) {
		t.Errorf("of many numbers: %+v, %d", l, err)
	}
}

// R1: a script of many raw calls, of which much is told, and many scripts.
func TestLong(t *testing.T) {
	c := api.Config{Log: 6, Threads: 16, Wait: api.Parking}
	raw := slices.Repeat(calls(one(5, 15, 0, 0), picks(15, 4)), 40_000)
	l, err := play.Play(c, raw)
	if err != api.OK || len(l) != 200_000 || l[199_999] != (api.Note{Told: 40_000}) {
		t.Errorf("%d notes, %d", len(l), err)
	}
	s, err := play.Last(c, raw)
	if err != api.OK || len(s.Log) != 40_000 || s.Log[39_999] != (api.Entry{Thread: 15, Kind: api.KTryRecv, Result: api.REmpty}) {
		t.Errorf("%d told, %d", len(s.Log), err)
	}
	many := make([]api.Script, 200_000)
	for n := range many {
		many[n].Config = api.Config{Log: 1, Threads: n % 2}
	}
	all, n := play.All(many)
	if n != 100_000 || len(all) != 200_000 || len(all[0].Threads) != 0 || len(all[199_999].Threads) != 1 {
		t.Errorf("%d of %d", n, len(all))
	}
}

// spare is a list with room behind it, in which something stands.
func spare[T any](l []T, behind T) []T {
	m := slices.Grow(slices.Clone(l), 4)
	fill(m[len(m):cap(m)], behind)
	return m
}

// fill writes one thing all over a list.
func fill[T any](l []T, x T) {
	for n := range l {
		l[n] = x
	}
}

// roomy is a state in which all lists have room behind them.
func roomy(s api.State) api.State {
	s.Slots = spare(s.Slots, api.Slot{Stamp: -77})
	s.Threads, s.Log = spare(s.Threads, api.Thread{Val: -77}), spare(s.Log, api.Entry{Val: -77})
	s.Sends, s.Recvs = spare(s.Sends, -77), spare(s.Recvs, -77)
	s.Full.Line, s.Empty.Line = spare(s.Full.Line, -77), spare(s.Empty.Line, -77)
	return s
}

// whole is a state with all that stands in the room behind its lists.
func whole(s api.State) api.State {
	s.Slots, s.Threads, s.Log = s.Slots[:cap(s.Slots)], s.Threads[:cap(s.Threads)], s.Log[:cap(s.Log)]
	s.Sends, s.Recvs = s.Sends[:cap(s.Sends)], s.Recvs[:cap(s.Recvs)]
	s.Full.Line, s.Empty.Line = s.Full.Line[:cap(s.Full.Line)], s.Empty.Line[:cap(s.Empty.Line)]
	return s
}

// lines are the lists of threads that a state has.
func lines(s api.State) [][]int {
	return [][]int{s.Sends, s.Recvs, s.Full.Line, s.Empty.Line}
}

// spoil writes all over what a state has, and over the room behind it.
func spoil(s api.State) {
	s = whole(s)
	fill(s.Slots, api.Slot{Stamp: -99, Val: -99})
	fill(s.Threads, api.Thread{Val: -99})
	fill(s.Log, api.Entry{Val: -99})
	for _, l := range lines(s) {
		fill(l, -99)
	}
}

// crowded is a script behind which two send, one receives, and somebody waits for each event.
func crowded() api.Script {
	return api.Script{
		Config: api.Config{Log: 1, Threads: 6, Wait: api.Parking},
		Raw: calls(
			one(1, 0, 5, 0), picks(0, 7), one(1, 0, 6, 0), picks(0, 7),
			one(1, 0, 7, 0), picks(0, 6), one(1, 1, 8, 0), picks(1, 2),
			one(4, 2, 0, 0), picks(2, 3), one(4, 3, 0, 0), picks(3, 1)),
	}
}

// waiting is a script behind which one waits for something, and others stand behind it.
func waiting() api.Script {
	return api.Script{
		Config: api.Config{Log: 1, Threads: 6, Wait: api.Parking},
		Raw:    calls(one(6, 2, 0, 9), picks(2, 6), one(4, 3, 0, 0), picks(3, 1), one(1, 0, 7, 0), picks(0, 4)),
	}
}

// R3: what is handed in is neither changed nor kept, its spare room included.
func TestHandedIn(t *testing.T) {
	for _, x := range append(scripts(40), crowded(), waiting()) {
		raw := make([][]int, len(x.Raw))
		for n, l := range x.Raw {
			raw[n] = spare(l, -77)
		}
		raw = spare(raw, []int{-77})
		untouched := func() bool {
			behind := func(l []int) bool { return slices.Equal(l, []int{-77}) }
			for n, l := range raw {
				if !slices.Equal(l, x.Raw[n]) || slices.ContainsFunc(l[len(l):cap(l)], func(v int) bool { return v != -77 }) {
					return false
				}
			}
			return !slices.ContainsFunc(raw[len(raw):cap(raw)], func(l []int) bool { return !behind(l) })
		}
		notes, _ := play.Play(x.Config, raw)
		s, _ := play.Last(x.Config, raw)
		all, _ := play.All(spare([]api.Script{{Config: x.Config, Raw: raw}}, api.Script{}))
		was, told := apart(s), slices.Clone(notes)
		if !untouched() {
			t.Fatalf("%v: what was handed in is changed", x)
		}
		for _, l := range raw {
			fill(l[:cap(l)], -99)
		}
		fill(raw[:cap(raw)], nil)
		if !slices.Equal(notes, told) || !same(s, was) || !same(all[0], was) {
			t.Fatalf("%v: what was handed in is kept", x)
		}
	}
	l := scripts(20)
	was := slices.Clone(l)
	play.All(l)
	for n, x := range l {
		if x.Config != was[n].Config || len(x.Raw) != len(was[n].Raw) {
			t.Fatalf("%d is changed", n)
		}
	}
	for _, from := range []api.State{lived(), ended(), {}} {
		s := roomy(from)
		was := apart(whole(s))
		if play.Look(s); !same(whole(s), was) {
			t.Fatalf("what was looked at is %+v, not %+v", whole(s), was)
		}
	}
}

// R3: no two lists of one answer share memory, nor two answers.
func TestShareNothing(t *testing.T) {
	for _, x := range []api.Script{crowded(), waiting()} {
		s, _ := play.Last(x.Config, x.Raw)
		if was := apart(s); len(s.Recvs) == 0 || len(s.Sends) == 0 || len(s.Full.Line)+len(s.Empty.Line) == 0 {
			t.Fatalf("nobody stands there: %+v", was)
		}
		for n := range lines(s) {
			s, _ := play.Last(x.Config, x.Raw)
			was := lines(apart(s))
			l := lines(s)[n]
			fill(l[:cap(l)], -99)
			for m, other := range lines(s) {
				if n != m && !slices.Equal(other, was[m]) {
					t.Fatalf("lists %d and %d share memory", n, m)
				}
			}
		}
		all, n := play.All(slices.Repeat([]api.Script{x}, 20))
		if n != 20 {
			t.Fatalf("%d", n)
		}
		for n := range all {
			if !same(all[n], s) {
				t.Fatalf("%d is %+v, not %+v", n, all[n], s)
			}
			spoil(all[n])
		}
		if again, _ := play.Last(x.Config, x.Raw); !same(again, s) {
			t.Fatalf("what was answered is kept: %+v, not %+v", again, s)
		}
	}
}

// R4: the same is answered of the same, in whatever order it is asked, and however goroutines run.
func TestSameAnswers(t *testing.T) {
	l := scripts(60)
	var notes [][]api.Note
	for _, x := range l {
		n, _ := play.Play(x.Config, x.Raw)
		notes = append(notes, n)
	}
	states, many := play.All(l)
	var group sync.WaitGroup
	for n := range 8 {
		group.Go(func() {
			for m := range l {
				m = (m*7 + n) % len(l)
				x := api.Script{Config: l[m].Config, Raw: spare(l[m].Raw, []int{1, 0, 7, 0})}
				told, _ := play.Play(x.Config, x.Raw)
				s, _ := play.Last(x.Config, x.Raw)
				if !slices.Equal(told, notes[m]) || !same(s, states[m]) {
					t.Errorf("of %+v another answer", x)
				}
			}
			if all, often := play.All(l); often != many || !slices.EqualFunc(all, states, same) {
				t.Errorf("of all another answer: %d, not %d", often, many)
			}
		})
	}
	group.Wait()
}
