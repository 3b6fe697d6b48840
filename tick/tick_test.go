package tick_test

import (
	"fmt"
	"slices"
	"sync"
	"testing"

	"sakia/api"
	"sakia/due"
	"sakia/fabric"
	"sakia/op"
	"sakia/step"
	"sakia/thread"
	"sakia/tick"
)

const (
	most  = 1<<63 - 1
	least = -1 << 63
	last  = 1 << 40
)

// change makes of a state another one.
type change struct {
	name string
	by   func(s *api.State)
}

// laid is a fabric of room 2 in which threads park that wait; each begins to do something, until a time of its own.
func laid(kinds []int, untils ...int) api.State {
	s, _ := fabric.New(api.Config{Log: 1, Threads: len(kinds), Wait: api.Parking})
	for id, kind := range kinds {
		s, _ = fabric.Invoke(s, id, kind, 10+id, untils[id])
	}
	return s
}

// lived is a fabric of room 4, three of it taken, in which all lists have something: 0, 1 and 3 are to be late, of which 0 and 3 are parked.
func lived() api.State {
	return api.State{
		Config: api.Config{Log: 2, Threads: 6, Wait: api.Phased, Spin: 2, Yield: 1},
		Word:   api.Word{Head: 6, Tail: 9},
		Slots:  []api.Slot{{Stamp: 8, Val: 80}, {Stamp: 9, Val: 90}, {Stamp: 6, Val: 60}, {Stamp: 7, Val: 70}},
		Sends:  []int{3, 1}, Recvs: []int{4, 0},
		Full: api.Event{Epoch: 5, Line: []int{3, 2}}, Empty: api.Event{Epoch: 3, Line: []int{2, 0}},
		Now: 12,
		Threads: []api.Thread{
			{Status: api.TParked, Kind: api.KRecvUntil, Val: 100, Until: 20, Pc: 2, Reg: 5, Seen: 3, Result: api.ROK, Got: 7},
			{Status: api.TRuns, Kind: api.KSendUntil, Val: 101, Until: 15, Pc: 1, Tries: 4},
			{Status: api.TParked, Kind: api.KRecv, Val: 102, Pc: 2, Seen: 3},
			{Status: api.TParked, Kind: api.KSendUntil, Val: 103, Until: 15, Pc: 2, Seen: 5},
			{Status: api.TRuns, Kind: api.KRecvUntil, Val: 104, Until: 9, Pc: 2, Late: true},
			{Kind: api.KSendUntil, Val: 105, Until: 14, Result: api.ROK},
		},
		Log: []api.Entry{{Thread: 3, Kind: api.KTrySend, Val: 103, Result: api.ROK, Got: 50}},
	}
}

// ended is a fabric at its upper bounds.
func ended() api.State {
	return api.State{
		Config: api.Config{Log: 1, Threads: 3, Policy: api.DropOld, Wait: api.Yielding},
		Word:   api.Word{Head: last - 2, Tail: last, Mode: api.Draining},
		Slots:  []api.Slot{{Stamp: last - 2, Val: most}, {Stamp: last - 1, Val: least}},
		Full:   api.Event{Epoch: last, Line: []int{1}},
		Empty:  api.Event{Epoch: last, Line: []int{0, 1}},
		Now:    last - 3,
		Threads: []api.Thread{
			{Status: api.TParked, Kind: api.KRecvUntil, Until: last, Pc: 2, Seen: last},
			{Status: api.TParked, Kind: api.KSendUntil, Val: most, Until: last - 2, Pc: 11, Reg: last, Seen: last, Tries: last, Result: api.RHalted, Got: most},
			{Status: api.TRuns, Kind: api.KRecvUntil, Val: least, Until: last - 3, Pc: 4, Reg: last - 2},
		},
		Log: []api.Entry{{Thread: -1, Kind: least, Val: most, Result: 99, Got: most}},
	}
}

// apart is a state that shares no memory with another one.
func apart(s api.State) api.State {
	s.Slots, s.Threads, s.Log = slices.Clone(s.Slots), slices.Clone(s.Threads), slices.Clone(s.Log)
	s.Sends, s.Recvs = slices.Clone(s.Sends), slices.Clone(s.Recvs)
	s.Full.Line, s.Empty.Line = slices.Clone(s.Full.Line), slices.Clone(s.Empty.Line)
	return s
}

// with is a state that is changed.
func with(s api.State, by ...func(s *api.State)) api.State {
	s = apart(s)
	for _, f := range by {
		f(&s)
	}
	return s
}

// same tells whether two states have the same in them.
func same(a, b api.State) bool {
	alike := func(a, b api.Event) bool { return a.Epoch == b.Epoch && slices.Equal(a.Line, b.Line) }
	return a.Config == b.Config && a.Word == b.Word && a.Now == b.Now &&
		slices.Equal(a.Slots, b.Slots) && slices.Equal(a.Threads, b.Threads) && slices.Equal(a.Log, b.Log) &&
		slices.Equal(a.Sends, b.Sends) && slices.Equal(a.Recvs, b.Recvs) && alike(a.Full, b.Full) && alike(a.Empty, b.Empty)
}

// toBeLate is what the chapter says of who is to be late.
func toBeLate(t api.Thread) bool {
	return (t.Status == 1 || t.Status == 2) && (t.Kind == 3 || t.Kind == 6) && !t.Late
}

// dues is what the chapter says of the dues of a state.
func dues(s api.State) []api.Due {
	var l []api.Due
	for id := 0; fabric.Check(s) && id < len(s.Threads); id++ {
		if toBeLate(s.Threads[id]) {
			l = append(l, api.Due{At: s.Threads[id].Until, ID: id})
		}
	}
	// They rise by their numbers, so those of one time stay as they are.
	slices.SortStableFunc(l, func(a, b api.Due) int { return a.At - b.At })
	return l
}

// ticked is what the chapter says of a tick.
func ticked(s api.State, n int) (api.State, []int, api.Errno) {
	if !fabric.Check(s) {
		return s, nil, api.ErrConfig
	}
	if n < 0 || uint64(n)+uint64(s.Now) > last {
		return s, nil, api.ErrTime
	}
	var late []int
	l := dues(s)
	s = apart(s)
	s.Now += n
	for _, d := range l {
		if d.At > s.Now {
			continue
		}
		late = append(late, d.ID)
		s.Threads[d.ID].Late = true
		if s.Threads[d.ID].Status == 2 {
			is := func(id int) bool { return id == d.ID }
			s.Full.Line, s.Empty.Line = slices.DeleteFunc(s.Full.Line, is), slices.DeleteFunc(s.Empty.Line, is)
			s.Threads[d.ID].Status = 1
		}
	}
	return s, late, api.OK
}

// allTicked is what the chapter says of some ticks.
func allTicked(s api.State, l []int) (api.State, int) {
	many := 0
	for _, n := range l {
		x, late, err := ticked(s, n)
		if err == api.OK {
			s, many = x, many+len(late)
		}
	}
	return s, many
}

// changes has what may be done to states of at least three threads, such that a tick does something else.
func changes() []change {
	l := []change{
		{"nothing", func(s *api.State) {}},
		{"nobody waits", func(s *api.State) { s.Full.Line, s.Empty.Line = nil, nil }},
		{"all wait for both", func(s *api.State) { s.Full.Line, s.Empty.Line = []int{2, 0, 1}, []int{0, 2, 1} }},
		{"all wait for room", func(s *api.State) { s.Full.Line, s.Empty.Line = []int{1, 2, 0}, nil }},
		{"all wait for something", func(s *api.State) { s.Full.Line, s.Empty.Line = nil, []int{0, 1, 2} }},
		{"one waits twice", func(s *api.State) { s.Full.Line = []int{1, 0, 1} }},
		{"none that is a thread waits", func(s *api.State) { s.Empty.Line = []int{16} }},
		{"all stand", func(s *api.State) { s.Sends, s.Recvs = []int{2, 0, 1}, []int{0, 1, 2} }},
		{"an event that came too often", func(s *api.State) { s.Full.Epoch = last + 1 }},
		{"no slots", func(s *api.State) { s.Slots = nil }},
		{"a thread less", func(s *api.State) { s.Threads = s.Threads[1:] }},
		{"no such mode", func(s *api.State) { s.Word.Mode = 3 }},
		{"halted", func(s *api.State) { s.Word.Mode = api.Halted }},
		{"nothing was told", func(s *api.State) { s.Log = nil }},
	}
	for _, now := range []int{least, -1, 0, 1, 14, 15, last - 1, last, last + 1, most} {
		l = append(l, change{fmt.Sprint("it is ", now), func(s *api.State) { s.Now = now }})
	}
	for id := range 3 {
		of := func(name string, f func(t *api.Thread)) {
			l = append(l, change{fmt.Sprint(id, name), func(s *api.State) { f(&s.Threads[id]) }})
		}
		for status := -1; status < 4; status++ {
			of(" is about something else", func(t *api.Thread) { t.Status = status })
		}
		for kind := range 10 {
			of(" runs", func(t *api.Thread) { *t = api.Thread{Status: api.TRuns, Kind: kind, Val: 7} })
			of(" is parked", func(t *api.Thread) { *t = api.Thread{Status: api.TParked, Kind: kind, Val: 7, Pc: 2} })
			of(" is done", func(t *api.Thread) { *t = api.Thread{Kind: kind, Val: 7, Result: api.ROK} })
		}
		for _, until := range []int{least, -1, 0, 1, 12, 14, 15, 16, last - 3, last - 1, last, last + 1, most} {
			of(fmt.Sprint(" waits until ", until), func(t *api.Thread) { t.Until = until })
		}
		of(" is late", func(t *api.Thread) { t.Late = true })
		of(" is not late", func(t *api.Thread) { t.Late = false })
	}
	return l
}

// sorts goes through states of all sorts: all that two changes make, of each root.
func sorts(yield func(s api.State, names ...string)) {
	l := changes()
	for _, root := range []api.State{laid([]int{api.KRecvUntil, api.KSend, api.KSendUntil}, 3, 0, 1), lived(), ended()} {
		for n, a := range l {
			// Behind this one there are too few threads for others.
			if a.name == "a thread less" {
				continue
			}
			// Those further down change what those above them make.
			for _, b := range l[n:] {
				yield(with(root, a.by, b.by), a.name, b.name)
			}
		}
	}
}

// P18.1: who is to be late, and who is not.
func TestDues(t *testing.T) {
	for _, c := range []struct {
		name string
		x    api.Thread
		want []api.Due
	}{
		{"runs, and sends until", api.Thread{Status: api.TRuns, Kind: api.KSendUntil, Until: 5}, []api.Due{{At: 5, ID: 1}}},
		{"runs, and receives until", api.Thread{Status: api.TRuns, Kind: api.KRecvUntil, Until: 5}, []api.Due{{At: 5, ID: 1}}},
		{"parked, and sends until", api.Thread{Status: api.TParked, Kind: api.KSendUntil, Until: 5, Pc: 2}, []api.Due{{At: 5, ID: 1}}},
		{"parked, and receives until", api.Thread{Status: api.TParked, Kind: api.KRecvUntil, Until: 5, Pc: 2}, []api.Due{{At: 5, ID: 1}}},
		{"from the first", api.Thread{Status: api.TRuns, Kind: api.KSendUntil}, []api.Due{{At: 0, ID: 1}}},
		{"to the last", api.Thread{Status: api.TRuns, Kind: api.KSendUntil, Until: last}, []api.Due{{At: last, ID: 1}}},
		{"nearly done", api.Thread{Status: api.TRuns, Kind: api.KSendUntil, Until: 5, Pc: 9, Result: api.ROK}, []api.Due{{At: 5, ID: 1}}},
		{"late, and runs", api.Thread{Status: api.TRuns, Kind: api.KSendUntil, Until: 5, Late: true}, nil},
		{"late, and parked", api.Thread{Status: api.TParked, Kind: api.KRecvUntil, Until: 5, Late: true}, nil},
		{"done", api.Thread{Kind: api.KRecvUntil, Until: 5, Result: api.ROK}, nil},
		{"did nothing yet", api.Thread{}, nil},
		{"sends", api.Thread{Status: api.TRuns, Kind: api.KSend}, nil},
		{"tries to send", api.Thread{Status: api.TRuns, Kind: api.KTrySend}, nil},
		{"receives, and is parked", api.Thread{Status: api.TParked, Kind: api.KRecv}, nil},
		{"tries to receive", api.Thread{Status: api.TRuns, Kind: api.KTryRecv}, nil},
		{"drains", api.Thread{Status: api.TRuns, Kind: api.KDrain}, nil},
		{"halts", api.Thread{Status: api.TRuns, Kind: api.KHalt}, nil},
		{"may not be: too late a time", api.Thread{Status: api.TRuns, Kind: api.KSendUntil, Until: last + 1}, nil},
		{"may not be: a time ahead of all", api.Thread{Status: api.TRuns, Kind: api.KSendUntil, Until: -1}, nil},
		{"may not be: no such status", api.Thread{Status: 3, Kind: api.KSendUntil, Until: 5}, nil},
		{"may not be: no such kind", api.Thread{Status: api.TRuns, Kind: api.KEvict, Until: 5}, nil},
	} {
		s := laid([]int{api.KSend, api.KSend}, 0, 0)
		s.Threads[1] = c.x
		if l := tick.Dues(s); !slices.Equal(l, c.want) {
			t.Errorf("%s: %v, not %v", c.name, l, c.want)
		}
		n, is := tick.Next(s)
		if is != (len(c.want) == 1) || is && n != c.want[0].At || !is && n != 0 {
			t.Errorf("%s: the next one is %d, %v", c.name, n, is)
		}
	}
}

// P18.1: dues stand by their time, and by their number where that is the same; the first one is the next one.
func TestDuesInOrder(t *testing.T) {
	recv := func(n int) []int { return slices.Repeat([]int{api.KRecvUntil}, n) }
	for _, c := range []struct {
		name string
		s    api.State
		want []api.Due
	}{
		{"rising", laid(recv(3), 1, 2, 3), []api.Due{{At: 1, ID: 0}, {At: 2, ID: 1}, {At: 3, ID: 2}}},
		{"falling", laid(recv(3), 3, 2, 1), []api.Due{{At: 1, ID: 2}, {At: 2, ID: 1}, {At: 3, ID: 0}}},
		{"of one time", laid(recv(3), 2, 2, 2), []api.Due{{At: 2, ID: 0}, {At: 2, ID: 1}, {At: 2, ID: 2}}},
		{"two of one time", laid(recv(4), 9, 2, 9, 2), []api.Due{{At: 2, ID: 1}, {At: 2, ID: 3}, {At: 9, ID: 0}, {At: 9, ID: 2}}},
		{"first and last", laid(recv(3), last, 0, last-1), []api.Due{{At: 0, ID: 1}, {At: last - 1, ID: 2}, {At: last, ID: 0}}},
		{"others between", laid([]int{api.KSendUntil, api.KSend, api.KRecvUntil, api.KHalt}, 9, 0, 4, 0), []api.Due{{At: 4, ID: 2}, {At: 9, ID: 0}}},
		{"some", lived(), []api.Due{{At: 15, ID: 1}, {At: 15, ID: 3}, {At: 20, ID: 0}}},
		{"at the bounds", ended(), []api.Due{{At: last - 3, ID: 2}, {At: last - 2, ID: 1}, {At: last, ID: 0}}},
		{"nobody", laid([]int{api.KSend, api.KRecv}, 0, 0), nil},
		{"of nothing", api.State{}, nil},
		{"of no state", with(lived(), func(s *api.State) { s.Now = -1 }), nil},
	} {
		if l := tick.Dues(c.s); !slices.Equal(l, c.want) {
			t.Errorf("%s: %v, not %v", c.name, l, c.want)
		}
		first, is := due.First(c.want)
		if n, some := tick.Next(c.s); n != first.At || some != is {
			t.Errorf("%s: the next one is %d, %v", c.name, n, some)
		}
	}
	untils := make([]int, 16)
	for id := range untils {
		untils[id] = id * 7 % 5
	}
	s := laid(recv(16), untils...)
	if l := tick.Dues(s); len(l) != 16 || !due.Check(l) || !slices.Equal(l, dues(s)) {
		t.Errorf("of all there may be: %v", l)
	}
}

// P18.1: dues of states of all sorts, as the words of the chapter say it.
func TestDuesAsTheWordsSay(t *testing.T) {
	long := [5]int{}
	sorts(func(s api.State, names ...string) {
		l, want := tick.Dues(s), dues(s)
		if !slices.Equal(l, want) || !due.Check(l) {
			t.Fatalf("%v: Dues(%+v) = %v, not %v", names, s, l, want)
		}
		n, is := tick.Next(s)
		if is != (len(want) > 0) || is && n != want[0].At || !is && n != 0 {
			t.Fatalf("%v: Next(%+v) = %d, %v", names, s, n, is)
		}
		if fabric.Check(s) {
			long[len(l)]++
		}
	})
	if slices.Min(long[:]) < 100 {
		t.Errorf("there were so many of 0 to 4 dues: %v", long)
	}
}

// P18.2: each error, which one is told where there are several, and the greatest and least ticks that may be.
func TestErrors(t *testing.T) {
	at := func(now int) func(s *api.State) { return func(s *api.State) { s.Now = now } }
	for _, c := range []struct {
		name string
		by   func(s *api.State)
		n    int
		want api.Errno
	}{
		{"none", at(12), 0, api.OK},
		{"one", at(12), 1, api.OK},
		{"below", at(12), -1, api.ErrTime},
		{"back to the start", at(12), -12, api.ErrTime},
		{"the least", at(12), least, api.ErrTime},
		{"to the last", at(12), last - 12, api.OK},
		{"past the last", at(12), last - 11, api.ErrTime},
		{"all of time, from the start", at(0), last, api.OK},
		{"more than all of time", at(0), last + 1, api.ErrTime},
		{"none, at the last", at(last), 0, api.OK},
		{"one, at the last", at(last), 1, api.ErrTime},
		{"below, at the last", at(last), -1, api.ErrTime},
		{"the greatest", at(0), most, api.ErrTime},
		{"so many that the sum wraps round", at(12), most, api.ErrTime},
		{"so many that the sum is the least", at(12), most - 11, api.ErrTime},
		{"none, in 32 bits", at(12), 1 << 32, api.OK},
		{"none, of no state", at(-1), 0, api.ErrConfig},
		{"into time, of no state", at(-1), 1, api.ErrConfig},
		{"below, of no state", at(last + 1), -1, api.ErrConfig},
		{"the greatest, of no state", func(s *api.State) { s.Slots = nil }, most, api.ErrConfig},
		{"one, of nothing", func(s *api.State) { *s = api.State{} }, 1, api.ErrConfig},
		{"below, of nothing", func(s *api.State) { *s = api.State{} }, -1, api.ErrConfig},
		{"a thread that may not be", func(s *api.State) { s.Threads[5].Pc = 1 }, 5, api.ErrConfig},
		{"one that waits twice", func(s *api.State) { s.Empty.Line = []int{0, 0} }, 5, api.ErrConfig},
	} {
		s := with(lived(), c.by)
		x, late, err := tick.Tick(s, c.n)
		if err != c.want || err != api.OK && (len(late) > 0 || !same(x, s)) || err == api.OK && x.Now != s.Now+c.n {
			t.Errorf("%s: %+v, %v, %d, not %d", c.name, x, late, err, c.want)
		}
		if x, n := tick.Ticks(s, []int{c.n}); err != api.OK && (n > 0 || !same(x, s)) || err == api.OK && x.Now != s.Now+c.n {
			t.Errorf("%s, as one of some: %+v, %d", c.name, x, n)
		}
	}
}

// P18.2: who becomes late, in order, and what becomes of it; who is there beside it stays as it is.
func TestTick(t *testing.T) {
	late := func(ids ...int) func(s *api.State) {
		return func(s *api.State) {
			for _, id := range ids {
				s.Threads[id].Late, s.Threads[id].Status = true, api.TRuns
			}
		}
	}
	lines := func(full, empty []int) func(s *api.State) {
		return func(s *api.State) { s.Full.Line, s.Empty.Line = full, empty }
	}
	none := func(s *api.State) {}
	for _, c := range []struct {
		name string
		by   func(s *api.State)
		n    int
		want []int
		then []func(s *api.State)
	}{
		{"none", none, 0, nil, nil},
		{"ahead of all", none, 2, nil, nil},
		{"to the first ones", none, 3, []int{1, 3}, []func(s *api.State){late(1, 3), lines([]int{2}, []int{2, 0})}},
		{"ahead of the last one", none, 7, []int{1, 3}, []func(s *api.State){late(1, 3), lines([]int{2}, []int{2, 0})}},
		{"to the last one", none, 8, []int{1, 3, 0}, []func(s *api.State){late(1, 3, 0), lines([]int{2}, []int{2})}},
		{"to the end", none, last - 12, []int{1, 3, 0}, []func(s *api.State){late(1, 3, 0), lines([]int{2}, []int{2})}},
		{"parked, and in both lines", lines([]int{0, 3}, []int{3, 2}), 3, []int{1, 3}, []func(s *api.State){late(1, 3), lines([]int{0}, []int{2})}},
		{"parked, and in the other line", lines([]int{0}, []int{3}), 3, []int{1, 3}, []func(s *api.State){late(1, 3), lines([]int{0}, nil)}},
		{"parked, and in no line", lines(nil, []int{2}), 3, []int{1, 3}, []func(s *api.State){late(1, 3), lines(nil, []int{2})}},
		{"runs, and is in both lines", lines([]int{1, 3}, []int{0, 1}), 3, []int{1, 3}, []func(s *api.State){late(1, 3), lines([]int{1}, []int{0, 1})}},
		{"last in line", lines([]int{2, 0, 3}, []int{0}), 3, []int{1, 3}, []func(s *api.State){late(1, 3), lines([]int{2, 0}, []int{0})}},
		{"in between", lines([]int{5, 3, 2}, nil), 3, []int{1, 3}, []func(s *api.State){late(1, 3), lines([]int{5, 2}, nil)}},
		{"times past already, none", func(s *api.State) { s.Now = 30 }, 0, []int{1, 3, 0}, []func(s *api.State){late(1, 3, 0), lines([]int{2}, []int{2})}},
		{"late already, and parked", func(s *api.State) { s.Threads[3].Late = true }, 100, []int{1, 0}, []func(s *api.State){late(1, 0), lines([]int{3, 2}, []int{2})}},
		{"the greater number first", func(s *api.State) { s.Threads[1].Until, s.Threads[3].Until = 14, 13 }, 2, []int{3, 1}, []func(s *api.State){late(1, 3), lines([]int{2}, []int{2, 0})}},
	} {
		s := with(lived(), c.by)
		want := with(s, append(c.then, func(s *api.State) { s.Now += c.n })...)
		x, ids, err := tick.Tick(s, c.n)
		if err != api.OK || !slices.Equal(ids, c.want) || !same(x, want) {
			t.Errorf("%s: %+v, %v, %d, not %+v, %v", c.name, x, ids, err, want, c.want)
		}
	}
}

// amounts are those by which time goes by, or may not.
var amounts = []int{least, -1, 0, 1, 2, 3, 4, 8, 9, last - 12, last - 2, last - 1, last, last + 1, most}

// P18.2: each tick, as the words of the chapter say it; P18.4: what may be stays so, and all of what is left is to be late still.
func TestTickAsTheWordsSay(t *testing.T) {
	told, became := map[api.Errno]int{}, [5]int{}
	sorts(func(s api.State, names ...string) {
		for _, n := range amounts {
			x, late, err := tick.Tick(s, n)
			want, ids, wrong := ticked(s, n)
			if err != wrong || !slices.Equal(late, ids) || !same(x, want) {
				t.Fatalf("%v: Tick(%+v, %d) = %+v, %v, %d, not %+v, %v, %d", names, s, n, x, late, err, want, ids, wrong)
			}
			if fabric.Check(x) != fabric.Check(s) {
				t.Fatalf("%v: Tick(%+v, %d) may not be: %+v", names, s, n, x)
			}
			told[err]++
			if err != api.OK {
				continue
			}
			became[len(late)]++
			if at, is := tick.Next(x); is && at <= x.Now {
				t.Fatalf("%v: after a tick of %d there is a due at %d: %+v", names, n, at, x)
			}
			if _, others := due.Late(dues(s), x.Now); !slices.Equal(others, tick.Dues(x)) {
				t.Fatalf("%v: dues are %v, not %v: %+v", names, tick.Dues(x), others, x)
			}
		}
	})
	if told[api.OK] < 5_000 || told[api.ErrConfig] < 5_000 || told[api.ErrTime] < 5_000 || slices.Min(became[:]) < 100 {
		t.Errorf("told %v, and so many became late %v", told, became)
	}
}

// P18.2: who becomes late is told as one that is late in the words of its own chapter.
func TestLateAsAThread(t *testing.T) {
	sorts(func(s api.State, names ...string) {
		x, late, err := tick.Tick(s, 3)
		for id := range x.Threads {
			if err != api.OK {
				continue
			}
			was := s.Threads[id]
			is := thread.Late(was, x.Now) && !was.Late
			if is != slices.Contains(late, id) || x.Threads[id].Late != (is || was.Late) || is && x.Threads[id].Status != api.TRuns {
				t.Fatalf("%v: thread %d, late are %v: %+v, of %+v", names, id, late, x, s)
			}
		}
	})
}

// P18.3: some ticks, those with an error among them.
func TestTicks(t *testing.T) {
	off := func(s *api.State) { s.Now = -1 }
	none := func(s *api.State) {}
	for _, c := range []struct {
		name      string
		by        func(s *api.State)
		l         []int
		now, want int
	}{
		{"none", none, nil, 12, 0},
		{"no element", none, []int{}, 12, 0},
		{"one that does nothing", none, []int{0}, 12, 0},
		{"one", none, []int{3}, 15, 2},
		{"one after the other", none, []int{1, 1, 1, 1, 1, 1, 1, 1}, 20, 3},
		{"nobody twice", none, []int{3, 0, 0, 1}, 16, 2},
		{"errors between", none, []int{-1, 3, least, most, 4, last, -3, 1}, 20, 3},
		{"errors alone", none, []int{-1, least, most, last, last - 11}, 12, 0},
		{"to the end, and no further", none, []int{last - 12, 1, 0, 1}, last, 3},
		{"too many at first, but not later on", none, []int{last - 11, 1, last - 13}, last, 3},
		{"of no state", off, []int{1, 2}, -1, 0},
		{"none, of no state", off, nil, -1, 0},
		{"of nothing", func(s *api.State) { *s = api.State{} }, []int{1, 2, 3}, 0, 0},
	} {
		s := with(lived(), c.by)
		want, many := allTicked(s, c.l)
		x, n := tick.Ticks(s, c.l)
		if n != c.want || n != many || x.Now != c.now || !same(x, want) {
			t.Errorf("%s: %+v, %d, not %+v, %d", c.name, x, n, want, c.want)
		}
	}
}

// P18.3, P18.4: all short ticks, each one after the other, as some behind some, and two as one of both at once.
func TestTicksAsTheWordsSay(t *testing.T) {
	some := []int{-1, 0, 1, 3, last - 13, most}
	for n, s := range []api.State{
		lived(), ended(), laid([]int{api.KRecvUntil, api.KSendUntil}, 4, 2), with(lived(), func(s *api.State) { s.Word.Head = -1 }),
	} {
		for m := range len(some) * len(some) * len(some) * len(some) {
			l := []int{some[m%6], some[m/6%6], some[m/36%6], some[m/216]}
			want, many := allTicked(s, l)
			x, often := tick.Ticks(s, l)
			if often != many || !same(x, want) || fabric.Check(x) != fabric.Check(s) {
				t.Fatalf("%d: Ticks(%v) = %+v, %d, not %+v, %d", n, l, x, often, want, many)
			}
			half, first := tick.Ticks(s, l[:2])
			if both, second := tick.Ticks(half, l[2:]); first+second != many || !same(both, want) {
				t.Fatalf("%d: Ticks(%v) of both: %+v, %d and %d, not %+v", n, l, both, first, second, want)
			}
			both(t, s, l[0], l[1])
		}
	}
}

// both asks for two ticks, and for one of both at once: they make late the same, in the same order, and lead to the same.
func both(t *testing.T, s api.State, a, b int) {
	t.Helper()
	half, first, wrong := tick.Tick(s, a)
	two, second, wrongLater := tick.Tick(half, b)
	if wrong != api.OK || wrongLater != api.OK {
		return
	}
	one, late, err := tick.Tick(s, a+b)
	if err != api.OK || !same(one, two) || !slices.Equal(late, slices.Concat(first, second)) {
		t.Fatalf("a tick of %d, and one of %d: %+v, %v and %v, not %+v, %v, %d", a, b, two, first, second, one, late, err)
	}
}

// P18.4: two ticks are as one, of states of all sorts.
func TestTwoAsOne(t *testing.T) {
	sorts(func(s api.State, names ...string) {
		for _, a := range []int{1, 3} {
			for _, b := range []int{0, 8} {
				both(t, s, a, b)
			}
		}
	})
}

// P18.4: in all scripts of three who wait until, who is late stays so till it is done, is not parked, and stands in no line of an event.
func TestLateStaysSo(t *testing.T) {
	done, woken := 0, 0
	var on func(s api.State, deep int)
	after := func(s, x api.State, deep int) {
		if !fabric.Check(x) {
			t.Fatalf("what may not be, behind %+v: %+v", s, x)
		}
		for id, now := range x.Threads {
			if was := s.Threads[id]; was.Late && !now.Late {
				done++
				if now.Status != api.TIdle {
					t.Fatalf("thread %d is late no more: %+v, behind %+v", id, x, s)
				}
			}
			if now.Late && s.Threads[id].Status == api.TParked {
				woken++
			}
			if now.Late && (now.Status != api.TRuns || slices.Contains(x.Full.Line, id) || slices.Contains(x.Empty.Line, id)) {
				t.Fatalf("thread %d is late, and waits: %+v", id, x)
			}
		}
		on(x, deep)
	}
	on = func(s api.State, deep int) {
		if deep == 0 {
			return
		}
		for id := range s.Threads {
			if x, err := step.Pick(s, id); err == api.OK {
				after(s, x, deep-1)
			}
		}
		for _, n := range []int{1, 2} {
			x, _, _ := tick.Tick(s, n)
			if want, _, _ := ticked(s, n); !same(x, want) {
				t.Fatalf("a tick of %d: %+v, not %+v", n, x, want)
			}
			after(s, x, deep-1)
		}
	}
	kinds := [][]int{{api.KRecvUntil, api.KRecvUntil, api.KSendUntil}, {api.KSendUntil, api.KSendUntil, api.KRecvUntil}}
	for _, kinds := range kinds {
		for _, from := range []int{0, 3, 5, 6} {
			s := laid(kinds, 2, 1, 3)
			// No room, so that who sends has to wait, too.
			if kinds[0] == api.KSendUntil {
				s.Word.Tail = len(s.Slots)
			}
			s, _ = step.Some(s, slices.Repeat([]int{0, 1}, from))
			on(s, 6)
		}
	}
	if done < 50 || woken < 50 {
		t.Errorf("only %d who were late were done, and %d woken", done, woken)
	}
}

// The chapter's example, and that of the whole: a tick past the time of one who is parked lets it run, and it ends with RTimeout.
func TestExamples(t *testing.T) {
	s := laid([]int{api.KRecvUntil, api.KSendUntil}, 5, 3)
	if x, late, err := tick.Tick(s, 4); err != api.OK || !slices.Equal(late, []int{1}) || x.Threads[0].Late || !x.Threads[1].Late {
		t.Errorf("a tick of 4: %+v, %v, %d", x, late, err)
	}
	for _, kind := range []int{api.KRecvUntil, api.KSendUntil} {
		s := laid([]int{kind}, 5)
		if kind == api.KSendUntil {
			s.Word.Tail = 2
		}
		s, _ = step.Rounds(s, most)
		if s.Threads[0].Status != api.TParked || len(s.Full.Line)+len(s.Empty.Line) != 1 {
			t.Fatalf("%d: not parked: %+v", kind, s)
		}
		if x, late, _ := tick.Tick(s, 4); len(late) > 0 || x.Threads[0].Status != api.TParked || !step.Quiet(x) {
			t.Errorf("%d: late too soon: %v, %+v", kind, late, x)
		}
		s, late, err := tick.Tick(s, 6)
		if err != api.OK || !slices.Equal(late, []int{0}) || !slices.Equal(step.Active(s), []int{0}) || len(s.Full.Line)+len(s.Empty.Line) > 0 {
			t.Errorf("%d: it does not run: %v, %+v", kind, late, s)
		}
		s, _ = step.Rounds(s, most)
		if x := s.Threads[0]; x.Status != api.TIdle || x.Result != api.RTimeout || x.Late {
			t.Errorf("%d: it did not end late: %+v", kind, x)
		}
	}
}

// W5: who is late is done, in a number of rounds that is told by how many there are.
func TestLateIsDone(t *testing.T) {
	for how := range 4 {
		for many := 1; many <= 16; many++ {
			c := api.Config{Log: 1, Threads: many, Wait: how}
			if how == api.Phased {
				c.Spin, c.Yield = 1, 1
			}
			s, _ := fabric.New(c)
			for id := range many {
				s, _ = fabric.Invoke(s, id, api.KRecvUntil, 0, 5+id)
			}
			s, _ = step.Rounds(s, 30)
			s, late, err := tick.Tick(s, 100)
			if err != api.OK || len(late) != many {
				t.Fatalf("%+v: %d became late, %d", c, len(late), err)
			}
			s, n := step.Rounds(s, most)
			if n > 10 || !step.Quiet(s) || len(tick.Dues(s)) > 0 {
				t.Fatalf("%+v: after %d rounds %+v", c, n, s)
			}
			for id, x := range s.Threads {
				if x.Result != api.RTimeout || !op.Ends(x.Kind, x.Result) {
					t.Fatalf("%+v: thread %d: %+v", c, id, x)
				}
			}
		}
	}
}

// R1: lists far longer than may be, and many ticks.
func TestLong(t *testing.T) {
	long := make([]int, 1_000_000)
	for name, by := range map[string]func(s *api.State){
		"slots":   func(s *api.State) { s.Slots = make([]api.Slot, 1_000_000) },
		"threads": func(s *api.State) { s.Threads = make([]api.Thread, 1_000_000) },
		"recvs":   func(s *api.State) { s.Recvs = long },
		"empty":   func(s *api.State) { s.Empty.Line = long },
	} {
		s := with(lived(), by)
		if x, late, err := tick.Tick(s, 1); err != api.ErrConfig || len(late) > 0 || !same(x, s) || len(tick.Dues(s)) > 0 {
			t.Errorf("%s: %v, %d", name, late, err)
		}
		if x, n := tick.Ticks(s, long); n != 0 || !same(x, s) {
			t.Errorf("%s: %d became late", name, n)
		}
	}
	s := lived()
	s.Log = make([]api.Entry, 500_000)
	if x, n := tick.Ticks(s, slices.Repeat([]int{-1, 1}, 50_000)); n != 3 || x.Now != 50_012 || len(x.Log) != 500_000 {
		t.Errorf("many ticks: %d, %d", n, x.Now)
	}
}

// spare is a list with room behind it, in which something stands.
func spare[T any](l []T, behind T) []T {
	m := slices.Grow(slices.Clone(l), 4)
	fill(m[len(m):cap(m)], behind)
	return m
}

// roomy is a state in which all lists have room behind them.
func roomy(s api.State) api.State {
	s.Slots = spare(s.Slots, api.Slot{Stamp: -77})
	s.Threads, s.Log = spare(s.Threads, api.Thread{Val: -77}), spare(s.Log, api.Entry{Val: -77})
	s.Sends, s.Recvs = spare(s.Sends, -77), spare(s.Recvs, -77)
	s.Full.Line, s.Empty.Line = spare(s.Full.Line, -77), spare(s.Empty.Line, -77)
	return s
}

// whole is a state with all that stands in the room behind its lists.
func whole(s api.State) api.State {
	s.Slots, s.Threads, s.Log = s.Slots[:cap(s.Slots)], s.Threads[:cap(s.Threads)], s.Log[:cap(s.Log)]
	s.Sends, s.Recvs = s.Sends[:cap(s.Sends)], s.Recvs[:cap(s.Recvs)]
	s.Full.Line, s.Empty.Line = s.Full.Line[:cap(s.Full.Line)], s.Empty.Line[:cap(s.Empty.Line)]
	return s
}

// fill writes one thing all over a list.
func fill[T any](l []T, x T) {
	for n := range l {
		l[n] = x
	}
}

// answer is all that is answered of one call.
type answer struct {
	s    api.State
	ids  []int
	dues []api.Due
	err  api.Errno
	n    int
}

// equal tells whether two answers have the same in them.
func equal(a, b answer) bool {
	return same(a.s, b.s) && slices.Equal(a.ids, b.ids) && slices.Equal(a.dues, b.dues) && a.err == b.err && a.n == b.n
}

// saved is an answer that shares no memory with another one.
func saved(a answer) answer {
	a.s, a.ids, a.dues = apart(a.s), slices.Clone(a.ids), slices.Clone(a.dues)
	return a
}

// spoil writes all over what an answer has, and over the room behind it.
func spoil(a answer) {
	s := whole(a.s)
	fill(s.Slots, api.Slot{Stamp: -99, Val: -99})
	fill(s.Threads, api.Thread{Val: -99})
	fill(s.Log, api.Entry{Val: -99})
	for _, l := range [][]int{s.Sends, s.Recvs, s.Full.Line, s.Empty.Line, a.ids[:cap(a.ids)]} {
		fill(l, -99)
	}
	fill(a.dues[:cap(a.dues)], api.Due{At: -99, ID: -99})
}

// at has states of all sorts, and some that may not be.
func at() []api.State {
	l := []api.State{lived(), ended(), api.State{}, laid([]int{api.KRecvUntil, api.KSendUntil}, 4, 2)}
	for _, c := range changes() {
		l = append(l, with(lived(), c.by))
	}
	return l
}

// lists are the ticks that answers are asked of.
var lists = [][]int{nil, {-1}, {3, -1, 5}, {0, 3}, {100, most, 1}}

// answers has all that is answered of a state.
func answers(s api.State) []answer {
	l := []answer{{dues: tick.Dues(s)}}
	for _, n := range amounts {
		x, ids, err := tick.Tick(s, n)
		l = append(l, answer{s: x, ids: ids, err: err})
	}
	for _, list := range lists {
		x, n := tick.Ticks(s, list)
		l = append(l, answer{s: x, n: n})
	}
	at, _ := tick.Next(s)
	return append(l, answer{n: at})
}

// R3: what is handed in is neither changed nor kept, its spare room included.
func TestHandedIn(t *testing.T) {
	asked := fmt.Sprint(lists)
	for n, from := range at() {
		s := roomy(from)
		was := apart(whole(s))
		is := []answer{}
		for _, a := range answers(s) {
			is = append(is, saved(a))
			spoil(a)
			if !same(whole(s), was) {
				t.Fatalf("%d: what was handed in is %+v, not %+v", n, whole(s), was)
			}
		}
		l := answers(s)
		spoil(answer{s: s})
		for m, a := range l {
			if !equal(a, is[m]) {
				t.Fatalf("%d, %d: what was handed in is kept: %+v, not %+v", n, m, a, is[m])
			}
		}
	}
	if fmt.Sprint(lists) != asked {
		t.Errorf("ticks are %v, not %v", lists, asked)
	}
}

// R3: no two lists of one answer share memory, though those handed in do.
func TestShareNothing(t *testing.T) {
	one := []int{2, 3, 1, 0}
	for n, from := range at() {
		for _, by := range []func(s *api.State){
			func(s *api.State) { s.Sends, s.Recvs, s.Full.Line, s.Empty.Line = one, one, one, one },
			func(s *api.State) { s.Sends, s.Recvs, s.Full.Line, s.Empty.Line = one[1:2], one[:1], one[1:], one[3:] },
			func(s *api.State) { s.Sends, s.Recvs, s.Full.Line, s.Empty.Line = one[:0], one[:0], one, one[:0] },
		} {
			for m, a := range answers(with(from, by)) {
				lists := func(a answer) [][]int { return [][]int{a.s.Sends, a.s.Recvs, a.s.Full.Line, a.s.Empty.Line, a.ids} }
				for x, l := range lists(a) {
					was := lists(saved(a))
					fill(l[:cap(l)], -99)
					for y, other := range lists(a) {
						if x != y && !slices.Equal(other, was[y]) {
							t.Fatalf("%d, %d: lists %d and %d share memory", n, m, x, y)
						}
						copy(other, was[y])
					}
				}
			}
			if !slices.Equal(one, []int{2, 3, 1, 0}) {
				t.Fatalf("%d: %v", n, one)
			}
		}
	}
}

// R4: the same is answered of the same, in whatever order it is asked, whatever room is behind, and however goroutines run.
func TestSameAnswers(t *testing.T) {
	l := at()
	asked := [][]answer{}
	for _, s := range l {
		asked = append(asked, answers(s))
	}
	var group sync.WaitGroup
	for n := range 8 {
		group.Go(func() {
			for m := range l {
				m = (m*5 + n) % len(l)
				s := l[m]
				if n%2 == 1 {
					s = roomy(s)
				}
				if !slices.EqualFunc(answers(s), asked[m], equal) {
					t.Errorf("of %+v another answer", l[m])
				}
			}
		})
	}
	group.Wait()
}
