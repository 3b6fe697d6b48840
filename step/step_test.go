package step_test

import (
	"fmt"
	"slices"
	"sync"
	"testing"

	"sakia/api"
	"sakia/close"
	"sakia/fabric"
	"sakia/recv"
	"sakia/send"
	"sakia/step"
	"sakia/thread"
	"sakia/turn"
)

const (
	most  = 1<<63 - 1
	least = -1 << 63
	last  = 1 << 40
)

// ids are numbers of threads, beside them, and far outside.
var ids = []int{least, -1 << 41, -2, -1, 0, 1, 2, 3, 4, 5, 6, 7, 8, 15, 16, 1 << 32, 1<<32 + 1, 1<<32 + 2, most}

// change makes of a state another one.
type change struct {
	name string
	by   func(s *api.State)
}

// fresh is a fabric of room 2 in which threads begin to do something; 0 is nothing.
func fresh(kinds ...int) api.State {
	return laid(api.Config{Log: 1, Wait: api.Parking}, kinds...)
}

// laid is a fabric of that configuration in which threads begin to do something, each with its own value.
func laid(c api.Config, kinds ...int) api.State {
	c.Threads = len(kinds)
	s, _ := fabric.New(c)
	for id, kind := range kinds {
		if kind > 0 {
			s, _ = fabric.Invoke(s, id, kind, 10+id, 40)
		}
	}
	return s
}

// lived is a fabric of room 4, three of it taken, in which all lists have something; three threads run, two are parked, and one is idle.
func lived() api.State {
	return api.State{
		Config: api.Config{Log: 2, Threads: 6, Wait: api.Phased, Spin: 2, Yield: 1},
		Word:   api.Word{Head: 6, Tail: 9},
		Slots:  []api.Slot{{Stamp: 8, Val: 80}, {Stamp: 9, Val: 90}, {Stamp: 6, Val: 60}, {Stamp: 7, Val: 70}},
		Sends:  []int{1, 3}, Recvs: []int{4, 0},
		Full: api.Event{Epoch: 5, Line: []int{3}}, Empty: api.Event{Epoch: 3, Line: []int{0}},
		Now: 12,
		Threads: []api.Thread{
			{Status: api.TParked, Kind: api.KRecvUntil, Val: 100, Until: 20, Pc: 2, Reg: 5, Seen: 3},
			{Status: api.TRuns, Kind: api.KSend, Val: 101, Pc: 2, Seen: 5},
			{Status: api.TRuns, Kind: api.KDrain, Val: 102, Pc: 0, Reg: 6, Seen: 3, Tries: 1},
			{Status: api.TParked, Kind: api.KSendUntil, Val: 103, Until: 30, Pc: 2, Seen: 5},
			{Status: api.TRuns, Kind: api.KTryRecv, Val: 104, Pc: 2, Seen: 3, Result: api.REmpty, Got: 9},
			{Kind: api.KSend, Val: 105, Result: api.ROK},
		},
		Log: []api.Entry{{Thread: 3, Kind: api.KTrySend, Val: 103, Result: api.ROK, Got: 50}},
	}
}

// ended is a fabric at its upper bounds, in which nothing comes in any more.
func ended() api.State {
	return api.State{
		Config: api.Config{Log: 1, Threads: 3, Policy: api.DropOld, Wait: api.Yielding},
		Word:   api.Word{Head: last - 2, Tail: last, Mode: api.Draining},
		Slots:  []api.Slot{{Stamp: last - 2, Val: most}, {Stamp: last - 1, Val: least}},
		Full:   api.Event{Epoch: last},
		Empty:  api.Event{Epoch: last, Line: []int{0}},
		Now:    last,
		Threads: []api.Thread{
			{Status: api.TParked, Kind: api.KRecv, Pc: 2, Seen: last},
			{Status: api.TRuns, Kind: api.KHalt, Val: most, Pc: 2, Reg: last, Seen: last, Tries: last, Result: api.RHalted, Got: most},
			{Status: api.TRuns, Kind: api.KRecvUntil, Val: least, Until: last, Pc: 4, Reg: last - 2, Late: true},
		},
		Log: []api.Entry{{Thread: -1, Kind: least, Val: most, Result: 99, Got: most}},
	}
}

// apart is a state that shares no memory with another one.
func apart(s api.State) api.State {
	s.Slots, s.Threads, s.Log = slices.Clone(s.Slots), slices.Clone(s.Threads), slices.Clone(s.Log)
	s.Sends, s.Recvs = slices.Clone(s.Sends), slices.Clone(s.Recvs)
	s.Full.Line, s.Empty.Line = slices.Clone(s.Full.Line), slices.Clone(s.Empty.Line)
	return s
}

// with is a state that is changed.
func with(s api.State, by ...func(s *api.State)) api.State {
	s = apart(s)
	for _, f := range by {
		f(&s)
	}
	return s
}

// same tells whether two states have the same in them.
func same(a, b api.State) bool {
	return a.Config == b.Config && a.Word == b.Word && a.Now == b.Now &&
		slices.Equal(a.Slots, b.Slots) && slices.Equal(a.Threads, b.Threads) && slices.Equal(a.Log, b.Log) &&
		slices.Equal(a.Sends, b.Sends) && slices.Equal(a.Recvs, b.Recvs) && alike(a.Full, b.Full) && alike(a.Empty, b.Empty)
}

// alike tells whether two events have the same in them.
func alike(a, b api.Event) bool {
	return a.Epoch == b.Epoch && slices.Equal(a.Line, b.Line)
}

// picked is what the chapter says of a pick.
func picked(s api.State, id int) (api.State, api.Errno) {
	if !fabric.Check(s) {
		return s, api.ErrConfig
	}
	if id < 0 || id >= len(s.Threads) {
		return s, api.ErrThread
	}
	switch t := s.Threads[id]; {
	case t.Status == 0:
		return s, api.ErrIdle
	case t.Status == 2:
		return s, api.ErrParked
	case t.Kind < 4:
		return send.Step(s, id), api.OK
	case t.Kind < 7:
		return recv.Step(s, id), api.OK
	default:
		return close.Step(s, id), api.OK
	}
}

// somePicked is what the chapter says of some picks.
func somePicked(s api.State, picks []int) (api.State, int) {
	often := 0
	for _, id := range picks {
		x, err := picked(s, id)
		if err == api.OK {
			s, often = x, often+1
		}
	}
	return s, often
}

// active is what the chapter says of the threads that are active.
func active(s api.State) []int {
	var l []int
	for id := 0; fabric.Check(s) && id < len(s.Threads); id++ {
		if s.Threads[id].Status == 1 {
			l = append(l, id)
		}
	}
	return l
}

// rounds is what the chapter says of so many rounds.
func rounds(s api.State, many int) (api.State, int) {
	often := 0
	for often < min(many, 200) && len(active(s)) > 0 {
		for id := range s.Threads {
			s, _ = picked(s, id)
		}
		often++
	}
	return s, often
}

// changes has what may be done to states of at least three threads, such that a pick does something else.
func changes() []change {
	l := []change{
		{"nothing", func(s *api.State) {}},
		{"empty", func(s *api.State) { s.Word.Head = s.Word.Tail }},
		{"full", func(s *api.State) { s.Word.Tail = s.Word.Head + len(s.Slots) }},
		{"open", func(s *api.State) { s.Word.Mode = api.Open }},
		{"draining", func(s *api.State) { s.Word.Mode = api.Draining }},
		{"halted", func(s *api.State) { s.Word.Mode = api.Halted }},
		{"no such mode", func(s *api.State) { s.Word.Mode = 3 }},
		{"more than full", func(s *api.State) { s.Word.Tail = s.Word.Head + len(s.Slots) + 1 }},
		{"slots turned", func(s *api.State) { slices.Reverse(s.Slots) }},
		{"a slot less", func(s *api.State) { s.Slots = s.Slots[1:] }},
		{"a thread less", func(s *api.State) { s.Threads = s.Threads[1:] }},
		{"nobody stands", func(s *api.State) { s.Sends, s.Recvs = nil, nil }},
		{"1 stands first", func(s *api.State) { s.Sends, s.Recvs = []int{1, 2, 0}, []int{1, 0, 2} }},
		{"2 stands first", func(s *api.State) { s.Sends, s.Recvs = []int{2, 0, 1}, []int{2, 1} }},
		{"one stands twice", func(s *api.State) { s.Sends = []int{1, 0, 1} }},
		{"nobody waits", func(s *api.State) { s.Full.Line, s.Empty.Line = nil, nil }},
		{"all wait", func(s *api.State) { s.Full.Line, s.Empty.Line = []int{2, 0, 1}, []int{0, 2, 1} }},
		{"none that is a thread waits", func(s *api.State) { s.Empty.Line = []int{16} }},
		{"an event that came too often", func(s *api.State) { s.Full.Epoch = last + 1 }},
		{"nothing was told", func(s *api.State) { s.Log = nil }},
		{"no time", func(s *api.State) { s.Now = -1 }},
		{"thread 0 alone receives", func(s *api.State) { s.Config.Single = true }},
		{"drops the new", func(s *api.State) { s.Config.Policy = api.DropNew }},
		{"drops the old", func(s *api.State) { s.Config.Policy = api.DropOld }},
		{"no such policy", func(s *api.State) { s.Config.Policy = 3 }},
		{"parks", func(s *api.State) { s.Config.Wait, s.Config.Spin, s.Config.Yield = api.Parking, 0, 0 }},
	}
	for id := range 3 {
		of := func(name string, f func(t *api.Thread)) {
			l = append(l, change{fmt.Sprint(id, name), func(s *api.State) { f(&s.Threads[id]) }})
		}
		for kind := range 12 {
			of(" runs", func(t *api.Thread) { *t = api.Thread{Status: api.TRuns, Kind: kind, Val: 7, Seen: t.Seen} })
		}
		for pc := -1; pc < 13; pc++ {
			of(" is at another step", func(t *api.Thread) { t.Pc = pc })
		}
		for status := -1; status < 4; status++ {
			of(" is about something else", func(t *api.Thread) { t.Status = status })
		}
		of(" did nothing yet", func(t *api.Thread) { *t = api.Thread{} })
		of(" is done", func(t *api.Thread) { *t = api.Thread{Kind: t.Kind, Val: t.Val, Until: t.Until, Result: api.ROK} })
		of(" may not be", func(t *api.Thread) { t.Result = 8 })
	}
	return l
}

// sorts goes through states of all sorts: all that two changes make, of each root.
func sorts(yield func(s api.State, names ...string)) {
	l := changes()
	for _, root := range []api.State{fresh(api.KSend, api.KRecv, api.KDrain), lived(), ended()} {
		for _, a := range l {
			for _, b := range l {
				if a.name == "a thread less" && b.name != "nothing" {
					continue
				}
				yield(with(root, a.by, b.by), a.name, b.name)
			}
		}
	}
}

// shared counts what threads share that two states differ in.
func shared(a, b api.State) int {
	many := 0
	for _, differs := range []bool{a.Word != b.Word, !slices.Equal(a.Sends, b.Sends), !slices.Equal(a.Recvs, b.Recvs), !alike(a.Full, b.Full), !alike(a.Empty, b.Empty)} {
		if differs {
			many++
		}
	}
	for n := range a.Slots {
		if a.Slots[n] != b.Slots[n] {
			many++
		}
	}
	return many
}

// P17.1: each pick, as the words of the chapter say it; P17.4, W4: what may be stays so, and not more than one thing is changed.
func TestPickAsTheWordsSay(t *testing.T) {
	told, stepped := map[api.Errno]int{}, [12]int{}
	sorts(func(s api.State, names ...string) {
		for id := -1; id <= len(s.Threads); id++ {
			x, err := step.Pick(s, id)
			want, wrong := picked(s, id)
			if err != wrong || !same(x, want) {
				t.Fatalf("%v: Pick(%+v, %d) = %+v, %d, not %+v, %d", names, s, id, x, err, want, wrong)
			}
			if fabric.Check(x) != fabric.Check(s) || shared(s, x) > 1 || err != api.OK && !same(x, s) {
				t.Fatalf("%v: thread %d: %+v, of %+v", names, id, x, s)
			}
			told[err]++
			if err == api.OK {
				stepped[s.Threads[id].Kind]++
			}
		}
	})
	for _, err := range []api.Errno{api.OK, api.ErrConfig, api.ErrThread, api.ErrIdle, api.ErrParked} {
		if told[err] < 5_000 {
			t.Errorf("error %d was told %d times only", err, told[err])
		}
	}
	if slices.Min(stepped[1:9]) < 500 || stepped[0]+stepped[9]+stepped[10]+stepped[11] > 0 {
		t.Errorf("stepped %v", stepped)
	}
}

// P17.1: of each kind its own step; what others are about does not matter.
func TestPick(t *testing.T) {
	for _, c := range []struct {
		kind int
		then func(s *api.State)
	}{
		{api.KSend, func(s *api.State) { s.Sends = []int{1} }},
		{api.KTrySend, func(s *api.State) { s.Sends = []int{1} }},
		{api.KSendUntil, func(s *api.State) { s.Sends = []int{1} }},
		{api.KRecv, func(s *api.State) { s.Recvs = []int{1} }},
		{api.KTryRecv, func(s *api.State) { s.Recvs = []int{1} }},
		{api.KRecvUntil, func(s *api.State) { s.Recvs = []int{1} }},
		{api.KDrain, func(s *api.State) {
			s.Word.Mode, s.Threads[1].Result, s.Log = api.Draining, api.ROK, []api.Entry{{Thread: 1, Kind: api.KDrain, Val: 11, Result: api.ROK}}
		}},
		{api.KHalt, func(s *api.State) {
			s.Word.Mode, s.Threads[1].Result, s.Log = api.Halted, api.ROK, []api.Entry{{Thread: 1, Kind: api.KHalt, Val: 11, Result: api.ROK}}
		}},
	} {
		for other := range 9 {
			s := fresh(other, c.kind, other)
			want := with(s, c.then, func(s *api.State) { s.Threads[1].Pc = 1 })
			if x, err := step.Pick(s, 1); err != api.OK || !same(x, want) {
				t.Errorf("%d, beside %d: %+v, %d, not %+v", c.kind, other, x, err, want)
			}
		}
	}
}

// P17.1: each error, and which one is told where there are several; the state is as it was.
func TestErrors(t *testing.T) {
	of := func(id int, x api.Thread) func(s *api.State) { return func(s *api.State) { s.Threads[id] = x } }
	for _, c := range []struct {
		name string
		by   func(s *api.State)
		id   int
		want api.Errno
	}{
		{"runs", func(s *api.State) {}, 1, api.OK},
		{"the last thread", of(5, api.Thread{Status: api.TRuns, Kind: api.KSend}), 5, api.OK},
		{"idle", func(s *api.State) {}, 5, api.ErrIdle},
		{"did nothing yet", of(5, api.Thread{}), 5, api.ErrIdle},
		{"parked", func(s *api.State) {}, 0, api.ErrParked},
		{"parked, and waits until", func(s *api.State) {}, 3, api.ErrParked},
		{"parked, and closes", of(0, api.Thread{Status: api.TParked, Kind: api.KHalt}), 0, api.ErrParked},
		{"below", func(s *api.State) {}, -1, api.ErrThread},
		{"far below", func(s *api.State) {}, least, api.ErrThread},
		{"behind", func(s *api.State) {}, 6, api.ErrThread},
		{"behind all", func(s *api.State) {}, 16, api.ErrThread},
		{"like another one, in 32 bits", func(s *api.State) {}, 1<<32 + 1, api.ErrThread},
		{"far behind", func(s *api.State) {}, most, api.ErrThread},
		{"runs, of no state", func(s *api.State) { s.Now = -1 }, 1, api.ErrConfig},
		{"idle, of no state", func(s *api.State) { s.Word.Mode = 3 }, 5, api.ErrConfig},
		{"parked, of no state", func(s *api.State) { s.Slots = nil }, 0, api.ErrConfig},
		{"below, of no state", func(s *api.State) { s.Sends = []int{1, 1} }, -1, api.ErrConfig},
		{"behind, of no state", func(s *api.State) { s.Full.Epoch = -1 }, 6, api.ErrConfig},
		{"far behind, of nothing", func(s *api.State) { *s = api.State{} }, most, api.ErrConfig},
		{"of nothing", func(s *api.State) { *s = api.State{} }, 0, api.ErrConfig},
		{"no such status", of(1, api.Thread{Status: 3, Kind: api.KSend}), 1, api.ErrConfig},
		{"no such kind", of(1, api.Thread{Status: api.TRuns, Kind: api.KEvict}), 1, api.ErrConfig},
		{"no kind", of(1, api.Thread{Status: api.TRuns}), 1, api.ErrConfig},
		{"no such step", of(1, api.Thread{Status: api.TRuns, Kind: api.KHalt, Pc: 12}), 1, api.ErrConfig},
		{"another one may not be", of(2, api.Thread{Pc: 1}), 1, api.ErrConfig},
	} {
		s := with(lived(), c.by)
		x, err := step.Pick(s, c.id)
		if err != c.want || (err != api.OK) != same(x, s) {
			t.Errorf("%s: %+v, %d, not %d", c.name, x, err, c.want)
		}
		if x, n := step.Some(s, []int{c.id}); (n == 1) != (err == api.OK) || n > 1 || (n == 0) != same(x, s) {
			t.Errorf("%s, as one of some: %+v, %d", c.name, x, n)
		}
	}
}

// P17.2: some picks, those with an error among them.
func TestSome(t *testing.T) {
	off := func(s *api.State) { s.Now = -1 }
	for _, c := range []struct {
		name  string
		by    func(s *api.State)
		picks []int
		want  int
	}{
		{"none", func(s *api.State) {}, nil, 0},
		{"no element", func(s *api.State) {}, []int{}, 0},
		{"one", func(s *api.State) {}, []int{1}, 1},
		{"one twice", func(s *api.State) {}, []int{1, 1}, 2},
		{"those that run", func(s *api.State) {}, []int{1, 2, 4}, 3},
		{"one that is done ends", func(s *api.State) {}, []int{2, 2, 2, 2, 2}, 3},
		{"one that is woken", func(s *api.State) {}, []int{3, 2, 2, 3}, 3},
		{"those that do not run", func(s *api.State) {}, []int{0, 3, 5}, 0},
		{"no threads", func(s *api.State) {}, ids[:4], 0},
		{"all of these", func(s *api.State) {}, ids, 3},
		{"of no state", off, []int{1, 2, 4}, 0},
		{"none, of no state", off, nil, 0},
		{"of nothing", func(s *api.State) { *s = api.State{} }, ids, 0},
	} {
		s := with(lived(), c.by)
		want, often := somePicked(s, c.picks)
		if x, n := step.Some(s, c.picks); n != c.want || n != often || !same(x, want) {
			t.Errorf("%s: %+v, %d, not %+v, %d", c.name, x, n, want, c.want)
		}
	}
}

// lists goes through all lists of so many numbers from -1 up to many.
func lists(long, many int, yield func(l []int)) {
	l := make([]int, long)
	for n := 0; ; n++ {
		rest := n
		for at := range l {
			l[at] = rest%(many+2) - 1
			rest /= many + 2
		}
		if rest > 0 {
			return
		}
		yield(l)
	}
}

// P17.2, P17.4: all short picks, of fabrics near to what is of note, one after the other, and as some behind some.
func TestSomeAsTheWordsSay(t *testing.T) {
	near := with(fresh(api.KSend, api.KRecv, api.KHalt), func(s *api.State) {
		*s, _ = rounds(*s, 4)
	})
	for n, s := range []api.State{fresh(api.KSend, api.KRecv, api.KDrain), near, ended(), with(near, func(s *api.State) { s.Word.Head = -1 })} {
		lists(5, 3, func(l []int) {
			want, often := somePicked(s, l)
			x, many := step.Some(s, l)
			if many != often || !same(x, want) || fabric.Check(x) != fabric.Check(s) {
				t.Fatalf("%d: Some(%v) = %+v, %d, not %+v, %d", n, l, x, many, want, often)
			}
			half, first := step.Some(s, l[:2])
			if both, second := step.Some(half, l[2:]); first+second != often || !same(both, want) {
				t.Fatalf("%d: Some(%v) of both: %+v, %d and %d, not %+v", n, l, both, first, second, want)
			}
			one, _ := step.Pick(s, l[0])
			if two, _ := step.Pick(one, l[1]); !same(two, half) {
				t.Fatalf("%d: two picks of %v: %+v, not %+v", n, l, two, half)
			}
		})
	}
}

// P17.2: who is active, and whether nobody is, of states of all sorts.
func TestActiveAsTheWordsSay(t *testing.T) {
	quiet := 0
	sorts(func(s api.State, names ...string) {
		l, want := step.Active(s), active(s)
		if !slices.Equal(l, want) || step.Quiet(s) != (len(want) == 0) {
			t.Fatalf("%v: Active(%+v) = %v, Quiet %v", names, s, l, step.Quiet(s))
		}
		for id := range s.Threads {
			if fabric.Check(s) && slices.Contains(l, id) != (thread.Runs(s.Threads[id]) == api.OK) {
				t.Fatalf("%v: Active(%+v) = %v", names, s, l)
			}
		}
		if len(l) == 0 && fabric.Check(s) {
			quiet++
		}
	})
	if quiet == 0 {
		t.Error("none was quiet")
	}
}

// P17.2: who is active, at the edges.
func TestActive(t *testing.T) {
	all := make([]int, 16)
	for id := range all {
		all[id] = id
	}
	sixteen := slices.Repeat([]int{api.KSend}, 16)
	for _, c := range []struct {
		name string
		s    api.State
		want []int
	}{
		{"nobody", fresh(0, 0, 0), nil},
		{"the first one", fresh(api.KSend, 0, 0), []int{0}},
		{"the last one", fresh(0, 0, api.KHalt), []int{2}},
		{"one alone", fresh(api.KRecv), []int{0}},
		{"all there may be", fresh(sixteen...), all},
		{"some", lived(), []int{1, 2, 4}},
		{"of no state", with(lived(), func(s *api.State) { s.Now = -1 }), nil},
		{"one that may not be runs", with(lived(), func(s *api.State) { s.Threads[1].Kind = api.KEvict }), nil},
		{"of nothing", api.State{}, nil},
		{"all parked", with(fresh(api.KRecv, api.KSend), func(s *api.State) { s.Threads[0].Status, s.Threads[1].Status = api.TParked, api.TParked }), nil},
	} {
		if l := step.Active(c.s); !slices.Equal(l, c.want) || step.Quiet(c.s) != (len(c.want) == 0) {
			t.Errorf("%s: %v, %v, not %v", c.name, l, step.Quiet(c.s), c.want)
		}
	}
}

// P17.3: how many rounds there are.
func TestRounds(t *testing.T) {
	busy := laid(api.Config{Log: 1}, api.KRecv)
	parks := fresh(api.KRecv)
	sends := fresh(api.KSend)
	waits := laid(api.Config{Log: 1}, api.KRecv, api.KSend, 0)
	for _, c := range []struct {
		name       string
		s          api.State
		many, want int
	}{
		{"the least", busy, least, 0},
		{"below", busy, -1, 0},
		{"none", busy, 0, 0},
		{"one", busy, 1, 1},
		{"two", busy, 2, 2},
		{"nearly the most", busy, 199, 199},
		{"the most", busy, 200, 200},
		{"above the most", busy, 201, 200},
		{"like none, in 32 bits", busy, 1 << 32, 200},
		{"the greatest", busy, most, 200},
		{"till it is parked", parks, most, 6},
		{"ahead of its being parked", parks, 5, 5},
		{"as many as it takes", parks, 6, 6},
		{"till it is in", sends, most, 7},
		{"nearly in", sends, 6, 6},
		{"nobody runs", fresh(0, 0), most, 0},
		{"nobody runs, none", fresh(0, 0), 0, 0},
		{"of no state", with(sends, func(s *api.State) { s.Now = -1 }), most, 0},
		{"of nothing", api.State{}, most, 0},
		{"the busy one gets it", waits, most, 10},
	} {
		x, n := step.Rounds(c.s, c.many)
		want, often := rounds(c.s, c.many)
		if n != c.want || n != often || !same(x, want) {
			t.Errorf("%s: %+v, %d, not %+v, %d", c.name, x, n, want, c.want)
		}
	}
}

// P17.3: rounds are picks of all, from thread 0 on, also of one that was woken in the round, and of states of all sorts.
func TestRoundsAsTheWordsSay(t *testing.T) {
	turns, ends := 0, 0
	sorts(func(s api.State, names ...string) {
		// A part of them will do, since each change is gone through more than once.
		if turns++; turns%11 != 0 {
			return
		}
		many := []int{-1, 0, 1, 2, 3, 7, 20}[turns/11%7]
		want, often := rounds(s, many)
		x, n := step.Rounds(s, many)
		if n != often || !same(x, want) || fabric.Check(x) != fabric.Check(s) {
			t.Fatalf("%v: Rounds(%+v, %d) = %+v, %d, not %+v, %d", names, s, many, x, n, want, often)
		}
		if n < many && fabric.Check(s) {
			ends++
			if !step.Quiet(x) {
				t.Fatalf("%v: %d of %d rounds, and not quiet: %+v", names, n, many, x)
			}
		}
		if by, _ := step.Some(s, turn.Robin(len(s.Threads), n)); fabric.Check(s) && !same(by, x) {
			t.Fatalf("%v: %d rounds by picks: %+v, not %+v", names, n, by, x)
		}
	})
	if ends < 50 {
		t.Errorf("only %d became quiet", ends)
	}
}

// P17.3: who is woken by one ahead of it steps in the same round, and who is woken by one behind it in the next one.
func TestRoundWakes(t *testing.T) {
	for _, c := range []struct {
		parked, other, pc int
	}{{1, 0, 3}, {0, 1, 2}} {
		s := fresh(0, 0)
		s, _ = fabric.Invoke(s, c.parked, api.KRecv, 0, 0)
		s, _ = step.Rounds(s, most)
		if s.Threads[c.parked].Status != api.TParked {
			t.Fatalf("not parked: %+v", s)
		}
		s, _ = fabric.Invoke(s, c.other, api.KSend, 5, 0)
		s, _ = step.Rounds(s, 5)
		if s.Threads[c.parked].Status != api.TParked {
			t.Fatalf("woken too soon: %+v", s)
		}
		if x, n := step.Rounds(s, 1); n != 1 || x.Threads[c.parked].Status != api.TRuns || x.Threads[c.parked].Pc != c.pc {
			t.Errorf("woken by %d: %+v", c.other, x)
		}
	}
}

// P17.4: picks with an error change nothing, in between others.
func TestErrorsBetween(t *testing.T) {
	for n, s := range []api.State{fresh(api.KSend, 0, api.KRecv), fresh(api.KSend, api.KTryRecv, api.KDrain), lived()} {
		x, want, often := s, s, 0
		var picks []int
		for m := range 40 {
			id := []int{0, 2, 1, 4}[m*7%4]
			for _, none := range []int{-1, 16, most} {
				x, _ = step.Pick(x, none)
				picks = append(picks, none)
			}
			picks = append(picks, id)
			got, err := step.Pick(x, id)
			has, wrong := picked(want, id)
			if err != wrong || !same(got, has) {
				t.Fatalf("%d, pick %d: %+v, %d, not %+v, %d", n, m, got, err, has, wrong)
			}
			if err == api.OK {
				often++
			}
			x, want = got, has
		}
		if x, n := step.Some(s, picks); n != often || !same(x, want) {
			t.Errorf("%d: %+v, %d, not %+v, %d", n, x, n, want, often)
		}
	}
}

// W5, W6: in rounds all get there, of all that may be laid, with as many who send as who receive.
func TestAllGetThere(t *testing.T) {
	for n := range 6 * 2 * 4 * 3 {
		log, policy, how, pairs := 1+n%6, n/6%2, n/12%4, 1+n/48*3
		c := api.Config{Log: log, Policy: policy * api.DropOld, Wait: how}
		if how == api.Phased {
			c.Spin, c.Yield = 2, 1
		}
		var kinds []int
		for range pairs {
			kinds = append(kinds, api.KSend, api.KRecv)
		}
		s, often := step.Rounds(laid(c, kinds...), most)
		sum := 0
		for id, x := range s.Threads {
			if x.Status != api.TIdle || x.Result != api.ROK {
				t.Fatalf("%+v: thread %d: %+v, after %d rounds", c, id, x, often)
			}
			if x.Kind == api.KRecv {
				sum += x.Got
			} else {
				sum -= x.Val
			}
		}
		if sum != 0 || s.Word.Head != s.Word.Tail || !step.Quiet(s) || often > 30*pairs {
			t.Fatalf("%+v: %+v, after %d rounds", c, s, often)
		}
		s, _ = fabric.Invoke(s, 0, api.KDrain, 0, 0)
		s, _ = fabric.Invoke(s, 1, api.KRecv, 0, 0)
		if s, _ = step.Rounds(s, most); s.Threads[1].Result != api.RClosed || !step.Quiet(s) {
			t.Fatalf("%+v, drained: %+v", c, s)
		}
	}
}

// The examples of the whole, but for that of time.
func TestExamples(t *testing.T) {
	many := func(s api.State, id, n int) api.State {
		s, did := step.Some(s, slices.Repeat([]int{id}, n))
		if did != n {
			t.Errorf("%d of %d steps: %+v", did, n, s)
		}
		return s
	}
	idle := func(s api.State, id, result, got int) {
		t.Helper()
		if x := s.Threads[id]; x.Status != api.TIdle || x.Result != result || x.Got != got {
			t.Errorf("%+v, not done with %d, %d", x, result, got)
		}
	}
	there := func(s api.State, want ...int) {
		t.Helper()
		if l := fabric.Queue(s).Vals; !slices.Equal(l, want) {
			t.Errorf("there is %v, not %v", l, want)
		}
	}
	s := many(fresh(api.KSend), 0, 4)
	there(s)
	s = many(s, 0, 1)
	there(s, 10)
	one := many(s, 0, 2)
	idle(one, 0, api.ROK, 0)

	s, _ = fabric.Invoke(one, 0, api.KRecv, 0, 0)
	s = many(s, 0, 3)
	there(s, 10)
	s = many(s, 0, 1)
	there(s)
	idle(many(s, 0, 3), 0, api.ROK, 10)

	for _, c := range []struct{ policy, kind, steps, result int }{
		{api.Block, api.KTrySend, 4, api.RFull},
		{api.DropNew, api.KSend, 4, api.RDropped},
		{api.DropOld, api.KSend, 10, api.ROK},
	} {
		s, _ := step.Rounds(laid(api.Config{Log: 1, Policy: c.policy}, api.KSend, api.KSend), most)
		s, _ = fabric.Invoke(s, 0, c.kind, 12, 0)
		s = many(s, 0, c.steps)
		if c.policy == api.DropOld {
			there(s, 11, 12)
			s, _ = step.Rounds(s, most)
		} else {
			there(s, 10, 11)
		}
		idle(s, 0, c.result, 0)
	}

	s = many(fresh(api.KRecv, api.KSend), 0, 6)
	if _, err := step.Pick(s, 0); err != api.ErrParked {
		t.Errorf("not parked: %d", err)
	}
	if l := step.Active(many(s, 1, 5)); !slices.Equal(l, []int{1}) {
		t.Errorf("active is %v", l)
	}
	if l := step.Active(many(s, 1, 6)); !slices.Equal(l, []int{0, 1}) {
		t.Errorf("active is %v", l)
	}

	s, _ = step.Rounds(fresh(api.KRecv, api.KRecv, 0), most)
	s, _ = fabric.Invoke(s, 2, api.KSend, 12, 0)
	s, _ = step.Rounds(s, most)
	idle(s, 0, api.ROK, 12)
	if x := s.Threads[1]; x.Status != api.TParked {
		t.Errorf("the second one in line: %+v", x)
	}
}

// R1: lists far longer than may be, long picks, and a log that is long, which no step is held up by.
func TestLong(t *testing.T) {
	long := make([]int, 1_000_000)
	for name, by := range map[string]func(s *api.State){
		"slots":   func(s *api.State) { s.Slots = make([]api.Slot, 1_000_000) },
		"threads": func(s *api.State) { s.Threads = make([]api.Thread, 1_000_000) },
		"sends":   func(s *api.State) { s.Sends = long },
		"full":    func(s *api.State) { s.Full.Line = long },
	} {
		s := with(lived(), by)
		if x, n := step.Some(s, long); n != 0 || !same(x, s) {
			t.Errorf("%s: %d", name, n)
		}
		if x, n := step.Rounds(s, most); n != 0 || !same(x, s) || !step.Quiet(s) {
			t.Errorf("%s: %d rounds", name, n)
		}
	}
	if x, n := step.Some(fresh(api.KDrain), long); n != 3 || len(x.Log) != 1 || x.Threads[0].Result != api.ROK {
		t.Errorf("long picks: %d, %+v", n, x)
	}
	s := laid(api.Config{Log: 6}, slices.Repeat([]int{api.KRecv}, 16)...)
	s.Log = make([]api.Entry, 500_000)
	if x, n := step.Rounds(s, most); n != 200 || len(x.Log) != 500_000 {
		t.Errorf("a long log: %d, %d", n, len(x.Log))
	}
}

// spare is a list with room behind it, in which something stands.
func spare[T any](l []T, behind T) []T {
	m := slices.Grow(slices.Clone(l), 4)
	for n := range m[:cap(m)][len(m):] {
		m[:cap(m)][len(m)+n] = behind
	}
	return m
}

// roomy is a state in which all lists have room behind them.
func roomy(s api.State) api.State {
	s.Slots = spare(s.Slots, api.Slot{Stamp: -77})
	s.Threads, s.Log = spare(s.Threads, api.Thread{Val: -77}), spare(s.Log, api.Entry{Val: -77})
	s.Sends, s.Recvs = spare(s.Sends, -77), spare(s.Recvs, -77)
	s.Full.Line, s.Empty.Line = spare(s.Full.Line, -77), spare(s.Empty.Line, -77)
	return s
}

// whole is a state with all that stands in the room behind its lists.
func whole(s api.State) api.State {
	s.Slots, s.Threads, s.Log = s.Slots[:cap(s.Slots)], s.Threads[:cap(s.Threads)], s.Log[:cap(s.Log)]
	s.Sends, s.Recvs = s.Sends[:cap(s.Sends)], s.Recvs[:cap(s.Recvs)]
	s.Full.Line, s.Empty.Line = s.Full.Line[:cap(s.Full.Line)], s.Empty.Line[:cap(s.Empty.Line)]
	return s
}

// fill writes one thing all over a list.
func fill[T any](l []T, x T) {
	for n := range l {
		l[n] = x
	}
}

// spoil writes all over what a state has, and over the room behind it.
func spoil(s api.State) {
	s = whole(s)
	fill(s.Slots, api.Slot{Stamp: -99, Val: -99})
	fill(s.Threads, api.Thread{Val: -99})
	fill(s.Log, api.Entry{Val: -99})
	for _, l := range [][]int{s.Sends, s.Recvs, s.Full.Line, s.Empty.Line} {
		fill(l, -99)
	}
}

// at has states in which threads do all sorts of things, and some that may not be.
func at() []api.State {
	l := []api.State{lived(), ended(), fresh(0), fresh(api.KSend, api.KRecv, api.KHalt), api.State{}}
	for kind := 1; kind < 9; kind++ {
		for pc := range 12 {
			l = append(l, with(lived(), func(s *api.State) { s.Threads[1].Kind, s.Threads[1].Pc = kind, pc }))
		}
	}
	return append(l, with(lived(), func(s *api.State) { s.Now = -1 }))
}

// picks are those that answers are asked of.
var picks = []int{-1, 1, 2, 1, 4, 4, 5, 6, 1, 2, 2, 0, 3}

// answers has all states that are answered of one.
func answers(s api.State) []api.State {
	l := []api.State{}
	for _, id := range []int{-1, 0, 1, 2, 4, 5, 6} {
		x, _ := step.Pick(s, id)
		l = append(l, x)
	}
	for n := range len(picks) {
		x, _ := step.Some(s, picks[:n])
		l = append(l, x)
	}
	for _, many := range []int{-1, 0, 1, 2, 9} {
		x, _ := step.Rounds(s, many)
		l = append(l, x)
	}
	return l
}

// R3: what is handed in is neither changed nor kept, its spare room included.
func TestHandedIn(t *testing.T) {
	asked := slices.Clone(picks)
	for n, from := range at() {
		s := roomy(from)
		was := apart(whole(s))
		is := []api.State{}
		for _, x := range answers(s) {
			is = append(is, apart(x))
			spoil(x)
			if !same(whole(s), was) {
				t.Fatalf("%d: what was handed in is %+v, not %+v", n, whole(s), was)
			}
		}
		list := step.Active(s)
		active := slices.Clone(list)
		l := answers(s)
		spoil(s)
		for m, x := range l {
			if !same(x, is[m]) {
				t.Fatalf("%d, %d: what was handed in is kept: %+v, not %+v", n, m, x, is[m])
			}
		}
		if !slices.Equal(list, active) || !slices.Equal(picks, asked) {
			t.Fatalf("%d: %v, not %v, or %v", n, list, active, picks)
		}
	}
}

// R3: no two lists of one answer share memory, though those handed in do.
func TestShareNothing(t *testing.T) {
	one := []int{2, 3, 1, 0}
	for n, from := range at() {
		for _, by := range []func(s *api.State){
			func(s *api.State) { s.Sends, s.Recvs, s.Full.Line, s.Empty.Line = one, one, one, one },
			func(s *api.State) { s.Sends, s.Recvs, s.Full.Line, s.Empty.Line = one[1:2], one[:1], one[1:], one[3:] },
			func(s *api.State) { s.Sends, s.Recvs, s.Full.Line, s.Empty.Line = one[:0], one[:0], one, one[:0] },
		} {
			for m, x := range answers(with(from, by)) {
				lists := [][]int{x.Sends, x.Recvs, x.Full.Line, x.Empty.Line}
				for a, l := range lists {
					was := apart(x)
					fill(l[:cap(l)], -99)
					for b, other := range [][]int{was.Sends, was.Recvs, was.Full.Line, was.Empty.Line} {
						if a != b && !slices.Equal(other, lists[b]) {
							t.Fatalf("%d, %d: lists %d and %d share memory", n, m, a, b)
						}
						copy(lists[b], other)
					}
				}
			}
			if !slices.Equal(one, []int{2, 3, 1, 0}) {
				t.Fatalf("%d: %v", n, one)
			}
		}
	}
}

// R4: the same is answered of the same, in whatever order it is asked, whatever room is behind, and however goroutines run.
func TestSameAnswers(t *testing.T) {
	l := at()
	asked := [][]api.State{}
	for _, s := range l {
		asked = append(asked, answers(s))
	}
	var group sync.WaitGroup
	for n := range 8 {
		group.Go(func() {
			for m := range l {
				m = (m*5 + n) % len(l)
				s := l[m]
				if n%2 == 1 {
					s = roomy(s)
				}
				if !slices.EqualFunc(answers(s), asked[m], same) {
					t.Errorf("of %+v another answer", l[m])
				}
			}
		})
	}
	group.Wait()
}
